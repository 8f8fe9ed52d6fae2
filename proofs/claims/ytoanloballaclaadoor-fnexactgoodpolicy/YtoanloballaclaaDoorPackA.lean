import Derived.Test.YtoanloballaclaaDoorIndex
import Derived.Test.YtoanloballaclaaDoorKp
namespace Go.Proofs.YtoanloballaclaaDoor
open Go.RowKit

theorem b8_ofNat {n : Nat} (h : n ≤ 255) : B8 (UInt8.ofNat n) = .int .u8 (n : Int) := by
  unfold B8; rw [UInt8.toNat_ofNat']; congr 1; omega
theorem one_byte (n : Int) : ∀ u ∈ [Value.int .u8 n], u.oneCell' = true := by
  intro u hu; simp at hu; subst hu; rfl
theorem two_bytes (n m : Int) : ∀ u ∈ [Value.int .u8 n, .int .u8 m], u.oneCell' = true := by
  intro u hu; simp at hu; rcases hu with rfl | rfl <;> rfl
theorem cell_new_two (w : World) (x y : Value) (t : TypeId) : ∀ j u, [x, y][j]? = some u → (w.alloc (.cells #[x, y] t)).cell? ((⟨w.heap.size, 0, none⟩ : Addr).add j) = some u := by
  intro j u hj
  match j, hj with
  | 0, hj => simp at hj; subst hj; simp [Addr.add]
  | 1, hj => simp at hj; subst hj; simp [Addr.add]

theorem below_grownB {w0 wr w1 : World} {e : TypeId} {v : Value} {n : Nat} {xs : List Value} (hb : Below w0.heap.size w0 wr) (hown : wr.ownsRow w0.heap.size e 1 v n xs) (hgrow : wr.grownBy w1 v.ownBlock) : Below w0.heap.size w0 w1 :=
  hb.grown hgrow hb.size (fun k hk => (hown.lt k hk).1)


/-- The two bytes that point to a place. -/
def ptr (p : Nat) : List UInt8 := [UInt8.ofNat (192 + p / 256), UInt8.ofNat (p % 256)]

end Go.Proofs.YtoanloballaclaaDoor
