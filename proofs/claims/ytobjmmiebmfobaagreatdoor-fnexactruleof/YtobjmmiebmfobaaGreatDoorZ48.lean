import Derived.Test.YtobjmmiebmfobaaGreatDoorZ46
import Derived.Test.YtobjmmiebmfobaaGreatDoorZ37
import Derived.BigQuiet
import Derived.Deep.QuietTactic
namespace Go.Proofs.YtobjmmiebmfobaaGreatDoor
open Go.RowKit

theorem soa_count (ap : List UInt8) : ∀ L : List (List UInt8 × Int × Int × List UInt8), (L.filter (fun x => x.2.1 == 6)).length = nAt ap L + nOff ap L
  | [] => rfl
  | x :: r => by
    have ih := soa_count ap r
    unfold nAt nOff at ih ⊢
    by_cases h6 : x.2.1 = 6 <;> by_cases hn : x.1 = ap <;> simp [h6, hn] <;> omega
theorem one_all {L : List (List UInt8 × Int × Int × List UInt8)} {p q : (List UInt8 × Int × Int × List UInt8) → Bool} (h : (L.filter p).length = 1) : L.all (fun x => !p x || q x) = L.any (fun x => p x && q x) := by
  have h1 : L.all (fun x => !p x || q x) = (L.filter p).all q := by
    rw [List.all_filter]
  have h2 : L.any (fun x => p x && q x) = (L.filter p).any q := by
    rw [List.any_filter]
  rw [h1, h2]
  obtain ⟨a, ha⟩ := List.length_eq_one_iff.1 h
  rw [ha]; simp
/-- A good zone, in the specification's words. -/
def allT (ct : Int) (L : List (List UInt8 × Int × Int × List UInt8)) : Bool := L.all (fun x => !(x.2.1 == 6) || x.2.2.2 == serT ct)
theorem zone_same {ap : List UInt8} {ct : Int} {L : List (List UInt8 × Int × Int × List UInt8)} (h : ruleB ap L = 0) : telB ct L = allT ct L := by
  unfold ruleB at h
  split at h
  · unfold ruleI at h
    split at h
    · cases h
    · split at h
      · cases h
      · rename_i h2
        have hs : soaB ap L = true := by simpa using h2
        unfold soaB at hs
        simp only [Bool.and_eq_true, decide_eq_true_eq] at hs
        have hc := soa_count ap L
        unfold telB allT
        exact (one_all (by omega)).symm
  · cases h

theorem allT_bad {ct : Int} {L : List (List UInt8 × Int × Int × List UInt8)} (k : Nat) (hk : k < L.length) (h6 : L[k].2.1 = 6) (hd : ¬ L[k].2.2.2 = serT ct) : allT ct L = false := by
  unfold allT; rw [List.all_eq_false]; exact ⟨_, List.getElem_mem hk, by simp [h6, hd]⟩
theorem allT_all {ct : Int} {L : List (List UInt8 × Int × Int × List UInt8)} (h : ∀ j, (hj : j < L.length) → (!(L[j].2.1 == 6) || L[j].2.2.2 == serT ct) = true) : allT ct L = true := by
  unfold allT; rw [List.all_eq_true]; intro x hx
  obtain ⟨j, hj, rfl⟩ := List.getElem_of_mem hx
  exact h j hj

end Go.Proofs.YtobjmmiebmfobaaGreatDoor
