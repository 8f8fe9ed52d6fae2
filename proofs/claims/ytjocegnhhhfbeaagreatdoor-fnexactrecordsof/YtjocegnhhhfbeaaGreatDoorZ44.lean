import Derived.Test.YtjocegnhhhfbeaaGreatDoorZ24
import Derived.Test.YtjocegnhhhfbeaaGreatDoorZ20
import Derived.BigQuiet
import Derived.Deep.QuietTactic
import Derived.Test.YtjocegnhhhfbeaaGreatDoorZ14
namespace Go.Proofs.YtjocegnhhhfbeaaGreatDoor
open Go.RowKit

theorem rec_two {w : World} {b o k : Nat} {L : List (List UInt8 × Int × Int × List UInt8)} (hcel : ∀ j, (hj : j < L.length) → RecAt w b (o + j * 4) L[j]) (hk : k + 1 < L.length) {x y : (List UInt8 × Int × Int × List UInt8)} (hx : x = L[k]'(by omega)) (hy : y = L[k + 1]) :
    RecAt w b (o + k * 4) x ∧ RecAt w b (o + (k + 1) * 4) y := ⟨by rw [hx]; exact hcel k (by omega), by rw [hy]; exact hcel (k + 1) hk⟩
theorem rises_bad {L : List (List UInt8 × Int × Int × List UInt8)} (k : Nat) (h : k + 1 < L.length) (hp : 0 ≤ cmp4 (L[k]'(by omega)) L[k + 1]) : risesB L = false := adj_bad k h (by simp; omega)

end Go.Proofs.YtjocegnhhhfbeaaGreatDoor

namespace Go.Proofs.YtjocegnhhhfbeaaGreatDoor
open Go.RowKit

end Go.Proofs.YtjocegnhhhfbeaaGreatDoor
