import Derived.Test.YtfpdcpmbpeacjaaGreatDoorZ29
import Derived.Test.YtfpdcpmbpeacjaaGreatDoorZ32
import Derived.BigQuiet
import Derived.Deep.QuietTactic
namespace Go.Proofs.YtfpdcpmbpeacjaaGreatDoor
open Go.RowKit

theorem rec_pair {w : World} {b o k : Nat} {L : List (List UInt8 × Int × Int × List UInt8)} (hcel : ∀ j, (hj : j < L.length) → RecAt w b (o + j * 4) L[j]) (hk : k + 1 < L.length) {x y : (List UInt8 × Int × Int × List UInt8)} (hx : x = L[k]'(by omega)) (hy : y = L[k + 1]) :
    RecAt w b (o + k * 4) x ∧ RecAt w b (o + (k + 1) * 4) y := ⟨by rw [hx]; exact hcel k (by omega), by rw [hy]; exact hcel (k + 1) hk⟩
theorem ttl_on {xn yn xd yd : List UInt8} {xt yt xl yl : Int} (h1 : xn = yn) (h2 : xt = yt) : ttlP (xn, xt, xl, xd) (yn, yt, yl, yd) = (xl == yl) := by
  unfold ttlP; simp [h1, h2]
theorem ttl_off {xn yn xd yd : List UInt8} {xt yt xl yl : Int} (h : ¬ (xn = yn ∧ xt = yt)) : ttlP (xn, xt, xl, xd) (yn, yt, yl, yd) = true := by
  unfold ttlP
  by_cases h1 : xn = yn
  · have h2 : ¬ xt = yt := fun e => h ⟨h1, e⟩
    simp [h1, h2]
  · simp [h1]
theorem own_on {xn yn : List UInt8} {xt yt : Int} (h1 : xn = yn) (h2 : xt = yt) : true = (xn == yn && xt == yt) := by simp [h1, h2]
theorem own_off {xn yn : List UInt8} {xt yt : Int} (h : ¬ (xn = yn ∧ xt = yt)) : false = (xn == yn && xt == yt) := by
  by_cases h1 : xn = yn
  · have h2 : ¬ xt = yt := fun e => h ⟨h1, e⟩
    simp [h1, h2]
  · simp [h1]
theorem own_if {xn yn : List UInt8} {xt yt : Int} {same : Bool} {β : Type} (f : Bool → β) (h : same = (xn == yn && xt == yt)) : (if xn = yn then if xt = yt then f true else f false else f false) = f same := by
  rw [h]
  by_cases h1 : xn = yn
  · by_cases h2 : xt = yt
    · rw [if_pos h1, if_pos h2, h1, h2]; simp
    · rw [if_pos h1, if_neg h2, h1, show (xt == yt) = false by simpa using h2]; simp
  · rw [if_neg h1, show (xn == yn) = false by simpa using h1]; simp

end Go.Proofs.YtfpdcpmbpeacjaaGreatDoor
