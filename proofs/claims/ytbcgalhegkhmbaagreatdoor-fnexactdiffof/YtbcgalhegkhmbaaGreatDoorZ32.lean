import Derived.Test.YtbcgalhegkhmbaaGreatDoorZ29
import Derived.Test.YtbcgalhegkhmbaaGreatDoorZ11
import Derived.Test.YtbcgalhegkhmbaaGreatDoorZ31
import Derived.Test.YtbcgalhegkhmbaaGreatDoorZ08
namespace Go.Proofs.YtbcgalhegkhmbaaGreatDoor
open Go.RowKit

/-- A counter's serial, as a text. -/
def serT (ct : Int) : List UInt8 := numL (ct % 4294967296).toNat

set_option maxRecDepth 20000 in
set_option maxHeartbeats 400000 in
theorem serialText_any (ct : Int) (w : World) (hc : inB ct 0 1152921504606846976 = true) (hE : EnvT w) :
    Calls Tryz.prog 44 #[.int .i64 ct] w fun e w' => e = .returned (.string ⟨(serT ct).toArray⟩) ∧ Below w.heap.size w w' := by
  have HC : Hid (∀ W, EnvT W → Calls Tryz.prog 65 #[.int .i64 (ct % 4294967296)] W fun e w' => e = .returned (.string ⟨(serT ct).toArray⟩) ∧ Below W.heap.size W w') := fun W hW => by
    have h := itoaT_nat (ct % 4294967296).toNat W (by omega) hW
    rw [show (((ct % 4294967296).toNat : Nat) : Int) = ct % 4294967296 by omega] at h
    exact h
  go_enter Tryz.func44, Tryz.ntmps44
  go_wp2_with fail
  refine (iSerialOf_any ct w).mono ?_
  rintro e w1 ⟨rfl, rfl⟩
  unfold ofV
  rw [if_pos hc]
  go_wp2_with fail
  refine (HC.out _ hE).mono ?_
  rintro e w2 ⟨rfl, hb⟩
  go_wp2_with fail
  go_ret
  exact ⟨rfl, hb⟩

end Go.Proofs.YtbcgalhegkhmbaaGreatDoor
