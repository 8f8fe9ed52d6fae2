import Derived.Test.YtlmgipmolaeclaaDoorWClosestByC
import Derived.Test.YtlmgipmolaeclaaDoorG8I
namespace Go.Proofs.YtlmgipmolaeclaaDoor.closestBy
open Go.RowKit

set_option maxRecDepth 20000 in
set_option maxHeartbeats 1000000 in
theorem walk (nm nx : ByteArray) (va : Value) (L : List Int) (n : ByteArray) (w : World) (hn : nm.size ≤ maxLen) (hnx : nx.size ≤ maxLen) (ha : ZRow .i64 w va L) (hs : n.size ≤ maxLen) (hE : Env w) :
    Calls Tryd.prog 5 #[GapV nm nx va, .string n] w fun e w' => e = .returned (.bool true) ∧ Below w.heap.size w w' := by
  have hs2 := hs
  unfold maxLen at hs2
  by_cases h : (1048576 : Int) < (n.size : Int)
  · obtain ⟨aa, ca, rfl, _⟩ := id ha
    unfold GapV
    go_enter Tryd.func5, Tryd.ntmps5
    go_wp2_with fail
    go_ret
    exact ⟨rfl, (Below.refl w.heap.size w).alloc (Nat.le_refl _) _⟩
  · have hnn : n.size ≤ 1048576 := by omega
    exact core nm nx va L n _ _ w hn hnx ha hE hnn (fun g W h1 h2 h3 q => sClosestBy_any nm nx n _ W (by omega) (by omega) (by omega)) (fun g W hW h1 h2 _ q => iClosestBy_any nm nx n _ W hW)
end Go.Proofs.YtlmgipmolaeclaaDoor.closestBy
