import Derived.Test.YtbgkocjpenkijaaGreatDoorLMsgE
namespace Go.Proofs.YtbgkocjpenkijaaGreatDoor
open Go.RowKit

theorem wtR_mem {A : List (List UInt8 × Int × Int × List UInt8)} {x : List UInt8 × Int × Int × List UInt8} (h : x ∈ A) : x.1.length + x.2.2.2.length ≤ wtR A := by
  unfold wtR
  induction A with
  | nil => cases h
  | cons y r ih =>
    rcases List.mem_cons.1 h with rfl | h
    · simp
    · have := ih h; simp; omega
/-- What is small enough to be asked about. -/
theorem sz_small {A U : List (List UInt8 × Int × Int × List UInt8)} {n : Nat} {q : Int} (h0 : 0 ≤ q) (h : q = 1048576 - (n : Int) - (A.length : Int) - (wtR A : Int) - (U.length : Int) - (wtR U : Int)) :
    n ≤ 1048576 ∧ A.length ≤ 1048576 ∧ U.length ≤ 1048576 ∧ A.length + U.length ≤ 1048576 ∧ (∀ x ∈ A, x.1.length ≤ 1048576 ∧ x.2.2.2.length ≤ 1048576) ∧ (∀ x ∈ U, x.1.length ≤ 1048576 ∧ x.2.2.2.length ≤ 1048576) := by
  refine ⟨by omega, by omega, by omega, by omega, fun x hx => ?_, fun x hx => ?_⟩
  · have := wtR_mem hx; omega
  · have := wtR_mem hx; omega
theorem some_nil (b n m : Nat) : ∀ n' c, Value.slice (some ⟨b, 0, none⟩) n m = .slice none n' c → c = 0 := fun n' c h => by cases h
end Go.Proofs.YtbgkocjpenkijaaGreatDoor
