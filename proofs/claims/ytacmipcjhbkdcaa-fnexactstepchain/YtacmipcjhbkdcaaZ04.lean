import Derived.Test.YtacmipcjhbkdcaaZ02
import Derived.Test.YtacmipcjhbkdcaaZ03
namespace Go.Proofs.Ytacmipcjhbkdcaa
open Go.RowKit

/-- A list of bytes as Go's text. -/
def S (p : List UInt8) : Value := .string ⟨p.toArray⟩
theorem info_string : (Try.prog.info? 9).map (fun i => (i.zero, i.size, i.bytes)) = some (some (.string ByteArray.empty), 1, 16) := by kernel_rfl

theorem cell_new_one (w : World) (x : Value) (t : TypeId) : ∀ j u, [x][j]? = some u → (w.alloc (.cells #[x] t)).cell? ((⟨w.heap.size, 0, none⟩ : Addr).add j) = some u := by
  intro j u hj
  match j, hj with
  | 0, hj => simp at hj; subst hj; simp [Addr.add]
theorem one_string (x : ByteArray) : ∀ u ∈ [Value.string x], u.oneCell' = true := by
  intro u hu; simp at hu; subst hu; rfl

theorem extract_S (s : ByteArray) (a b : Nat) : Value.string (s.extract a b) = S ((s.data.toList.take b).drop a) := by
  unfold S
  have : (s.extract a b).data.toList = (s.data.toList.take b).drop a := by
    rw [Lib.extract_data, List.drop_take]
  rw [← this]

theorem below_append {w wr w1 : World} {v : Value} {n : Nat} {xs : List Value} {o : Obj} (hb : Below w.heap.size w wr) (hown : wr.ownsRow w.heap.size 9 1 v n xs) (hgrow : (wr.alloc o).grownBy w1 v.ownBlock) : Below w.heap.size w w1 :=
  (hb.alloc hb.size o).grown hgrow (by have := hb.size; simp; omega) (fun k hk => (hown.lt k hk).1)

theorem split_keep {w wr w1 : World} {s : ByteArray} {c : UInt8} {k fr : Nat} {out : List (List UInt8)} {v v' : Value} {t : TypeId} (h : Cutting c s.data.toList k fr out) (hk : k < s.data.toList.length) (hc : s.data.toList[k] = c)
    (hown : wr.ownsRow w.heap.size 9 1 v out.length (out.map S)) (hb : Below w.heap.size w wr)
    (hown' : w1.ownsRow w.heap.size 9 1 v' (out.length + 1) (out.map S ++ [.string (s.extract fr k)])) (hgrow : (wr.alloc (.cells #[.string (s.extract fr k)] t)).grownBy w1 v.ownBlock) :
    Cutting c s.data.toList (k + 1) (k + 1) (out ++ [(s.data.toList.take k).drop fr]) ∧ w1.ownsRow w.heap.size 9 1 v' (out ++ [(s.data.toList.take k).drop fr]).length ((out ++ [(s.data.toList.take k).drop fr]).map S) ∧ Below w.heap.size w w1 := by
  refine ⟨cutting_hit h hk hc, ?_, below_append hb hown hgrow⟩
  rw [extract_S] at hown'
  simpa using hown'

theorem split_last {w wr w1 : World} {s : ByteArray} {c : UInt8} {k fr : Nat} {out : List (List UInt8)} {v v' : Value} {t : TypeId} (h : Cutting c s.data.toList k fr out) (hk : ¬ k < s.data.toList.length)
    (hown : wr.ownsRow w.heap.size 9 1 v out.length (out.map S)) (hb : Below w.heap.size w wr)
    (hown' : w1.ownsRow w.heap.size 9 1 v' (out.length + 1) (out.map S ++ [.string (s.extract fr s.size)])) (hgrow : (wr.alloc (.cells #[.string (s.extract fr s.size)] t)).grownBy w1 v.ownBlock) :
    w1.ownsRow w.heap.size 9 1 v' (cut c s.data.toList).length ((cut c s.data.toList).map S) ∧ Below w.heap.size w w1 := by
  refine ⟨?_, below_append hb hown hgrow⟩
  rw [extract_S] at hown'
  rw [cutting_end h (by omega)]
  have e : s.data.toList.take s.size = s.data.toList := List.take_of_length_le (by simp)
  rw [e] at hown'
  simpa using hown'

end Go.Proofs.Ytacmipcjhbkdcaa
