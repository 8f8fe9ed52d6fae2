import Derived.Test.YtoopfmebpjojiaaDoorListT
import Derived.Test.YtoopfmebpjojiaaDoorJoin
namespace Go.Proofs.YtoopfmebpjojiaaDoor
open Go.RowKit

/-- The digits of a number, ahead of what is there; the first argument is a bound on the steps. -/
def mdF : Nat → Nat → List UInt8 → List UInt8
  | 0, _, acc => acc
  | f + 1, k, acc => if k = 0 then acc else mdF f (k / 10) (UInt8.ofNat (48 + k % 10) :: acc)
theorem mdF_fuel : ∀ (f g k : Nat) (acc : List UInt8), k ≤ f → k ≤ g → mdF f k acc = mdF g k acc
  | 0, g, k, acc, h, _ => by
    obtain rfl : k = 0 := by omega
    cases g <;> simp [mdF]
  | f + 1, 0, k, acc, _, h => by
    obtain rfl : k = 0 := by omega
    simp [mdF]
  | f + 1, g + 1, k, acc, h1, h2 => by
    by_cases hk : k = 0
    · simp [mdF, hk]
    · simp only [mdF, hk, if_false]
      exact mdF_fuel f g (k / 10) _ (by omega) (by omega)
theorem mdF_step (k : Nat) (acc : List UInt8) (hk : 0 < k) : mdF k k acc = mdF (k / 10) (k / 10) (UInt8.ofNat (48 + k % 10) :: acc) := by
  obtain ⟨j, rfl⟩ : ∃ j, k = j + 1 := ⟨k - 1, by omega⟩
  rw [mdF, if_neg (by omega)]
  exact mdF_fuel _ _ _ _ (by omega) (Nat.le_refl _)
theorem mdF_zero (acc : List UInt8) : mdF 0 0 acc = acc := rfl
/-- What markText tells of a number above 0. -/
def mark (k : Nat) : List UInt8 := 109 :: mdF k k []

theorem digit_byte (n : Nat) : (((UInt8.ofNat (48 + n % 10)).toNat : Nat) : Int) = 48 + (n : Int) % 10 := by
  have : (UInt8.ofNat (48 + n % 10)).toNat = 48 + n % 10 := by
    rw [UInt8.toNat_ofNat']; omega
  rw [this]; omega

theorem conv_one (w : World) (c : UInt8) : Sem.run Tryd.prog (convert 89 9 (.slice (some ⟨w.heap.size, 0, none⟩) 1 1)) (w.alloc (.cells #[.int .u8 (c.toNat : Int)] 5)) = .ok (.string ⟨#[c]⟩) (w.alloc (.cells #[.int .u8 (c.toNat : Int)] 5)) := by
  refine run_convert_bytes_back (w.alloc (.cells #[.int .u8 (c.toNat : Int)] 5)) 89 9 5 ⟨w.heap.size, 0, none⟩ 1 [c] Tryd.underlying89 Tryd.underlying5 Tryd.underlying9 (fun j hj => ?_)
  match j, hj with
  | 0, _ => simp [Addr.add]

set_option maxRecDepth 20000 in
set_option maxHeartbeats 1000000 in
theorem markText_any (n : Int) (K : Nat) (w : World) (hn : Hid (n = (K : Int))) (h0 : 0 < n) (hK : n ≤ 4294967280) :
    Calls Tryd.prog 43 #[.int .i64 n] w fun e w' => e = .returned (.string ⟨(mark K).toArray⟩) ∧ Below w.heap.size w w' := by
  go_enter Tryd.func43, Tryd.ntmps43
  go_wp2_with fail
  go_loopw [0, 3] (fun k s wr => ∃ (m : Nat) (out : List UInt8), k = .int .i64 m ∧ s = .string ⟨out.toArray⟩ ∧ out.length + m ≤ 4294967280 ∧ Hid (mdF m m out = mdF K K []) ∧ Below w.heap.size w wr) (fun k _ _ => (intOf k).toNat)
  case atStart => exact ⟨K, [], by rw [hn.out], rfl, by have := hn.out; simp; omega, rfl, Below.refl _ _⟩
  case round =>
    obtain ⟨m, out, rfl, rfl, hlen, HM, hb⟩ := hrel
    by_cases hm : 0 < m
    · have hst := mdF_step m out hm
      have hd := digit_byte m
      obtain ⟨c, hc⟩ : ∃ c, c = UInt8.ofNat (48 + m % 10) := ⟨_, rfl⟩
      rw [← hc] at hst hd
      have hconv := conv_one wr c
      rw [hd] at hconv
      have HST : Hid (mdF (m / 10) (m / 10) (c :: out) = mdF K K []) := by rw [← hst]; exact HM
      clear hst hd hc
      go_wp2_with fail
      go_roundw
      case rel => exact ⟨m / 10, c :: out, congrArg (Value.int .i64) (by omega), congrArg Value.string (data_eq (by simp)), by simp only [List.length_cons]; omega, HST, hb.alloc hb.size _⟩
      case measure => simp [intOf]; omega
    · obtain rfl : m = 0 := by omega
      have HO : Hid (out = mdF K K []) := HM
      go_wp2_with fail
      go_ret
      exact ⟨congrArg (fun x => Ending.returned (Value.string x)) (data_eq (by unfold mark; rw [← HO.out]; simp)), hb⟩
end Go.Proofs.YtoopfmebpjojiaaDoor
