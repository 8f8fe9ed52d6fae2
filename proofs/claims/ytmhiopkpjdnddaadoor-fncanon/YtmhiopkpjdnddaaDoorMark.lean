import Derived.Test.YtmhiopkpjdnddaaDoorListT
import Derived.Test.YtmhiopkpjdnddaaDoorJoin
namespace Go.Proofs.YtmhiopkpjdnddaaDoor
open Go.RowKit

/-- The digits of a number, ahead of what is there; the first argument is a bound on the steps. -/
def mdF : Nat → Nat → List UInt8 → List UInt8
  | 0, _, acc => acc
  | f + 1, k, acc => if k = 0 then acc else mdF f (k / 10) (UInt8.ofNat (48 + k % 10) :: acc)
theorem mdF_fuel : ∀ (f g k : Nat) (acc : List UInt8), k ≤ f → k ≤ g → mdF f k acc = mdF g k acc
  | 0, g, k, acc, h, _ => by
    obtain rfl : k = 0 := by omega
    cases g <;> simp [mdF]
  | f + 1, 0, k, acc, _, h => by
    obtain rfl : k = 0 := by omega
    simp [mdF]
  | f + 1, g + 1, k, acc, h1, h2 => by
    by_cases hk : k = 0
    · simp [mdF, hk]
    · simp only [mdF, hk, if_false]
      exact mdF_fuel f g (k / 10) _ (by omega) (by omega)
theorem mdF_step (k : Nat) (acc : List UInt8) (hk : 0 < k) : mdF k k acc = mdF (k / 10) (k / 10) (UInt8.ofNat (48 + k % 10) :: acc) := by
  obtain ⟨j, rfl⟩ : ∃ j, k = j + 1 := ⟨k - 1, by omega⟩
  rw [mdF, if_neg (by omega)]
  exact mdF_fuel _ _ _ _ (by omega) (Nat.le_refl _)
theorem mdF_zero (acc : List UInt8) : mdF 0 0 acc = acc := rfl
/-- What markText tells of a number above 0. -/
def mark (k : Nat) : List UInt8 := 109 :: mdF k k []

theorem digit_byte (n : Nat) : (((UInt8.ofNat (48 + n % 10)).toNat : Nat) : Int) = 48 + (n : Int) % 10 := by
  have : (UInt8.ofNat (48 + n % 10)).toNat = 48 + n % 10 := by
    rw [UInt8.toNat_ofNat']; omega
  rw [this]; omega

theorem conv_one (w : World) (c : UInt8) : Sem.run Tryd.prog (convert 22 9 (.slice (some ⟨w.heap.size, 0, none⟩) 1 1)) (w.alloc (.cells #[.int .u8 (c.toNat : Int)] 5)) = .ok (.string ⟨#[c]⟩) (w.alloc (.cells #[.int .u8 (c.toNat : Int)] 5)) := by
  refine run_convert_bytes_back (w.alloc (.cells #[.int .u8 (c.toNat : Int)] 5)) 22 9 5 ⟨w.heap.size, 0, none⟩ 1 [c] Tryd.underlying22 Tryd.underlying5 Tryd.underlying9 (fun j hj => ?_)
  match j, hj with
  | 0, _ => simp [Addr.add]

end Go.Proofs.YtmhiopkpjdnddaaDoor
