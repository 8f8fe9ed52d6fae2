/-
  No cell of these rows narrows 'for every input' (looked for: loops, veiled, ifaces, maps, wideKeys, modest, calm, conditions, laid).
  DERIVED. THE GIVEN ROWS OF THIS SEAT. 5 by the template 'for every input the law returns true; each argument reads behind the call as it read before'; 0 by the template 'total and deterministic' (their statements: YtnadkifjnppgcaaTotals.lean).
  GIVEN WITH THE SEED: the statements are not yours to turn. If you find one false, say at which input.
  Laid BY PROGRAM, IN A SANDBOX (cutbox-rows.mjs): the forced cells as the released guide's own fill.sh prints them over the translation 75d081423192d5d1… (all of the seat's roots in one cut). By AI agents, Wed Nov 11 2026. No macro, syntax, notation, axiom, sorry.
-/
import Derived.Test.YtnadkifjnppgcaaChecked
import GoSem.Claim
import GoSem.ClaimJoined
import GoSem.ClaimMapViews
import Derived.JoinedTies
import Derived.KernelRfl
namespace Go.Proofs.Ytnadkifjnppgcaa
/- THE CELL 'sum', in the pinned program and in every row, IS THE sha256 OF THE DUMP (.gsa) THAT YtnadkifjnppgcaaProg.lean LOADS. Nothing in Lean hashes anything: it is a label: what it is worth is what the hold of that sum in a sandbox is worth. -/
noncomputable def Try.pinned : Pinned := { name := "ytnadkifjnppgcaa", sum := "75d081423192d5d13984fd564c4d7102fadaa68287e1228eefe617bd266e6b36", checked := Try.checked }
namespace Rows
def none {H : Type} : Left H := { results := [], args := [] }

/-- 'laws.FnExactGoodWeights': WHATEVER THE INPUT: true; the input reads as it did. -/
def fnExactGoodWeightsSpec : ChangeSpec := { name := "fnExactGoodWeights", fn := fun _ => fun
  | [d] => { results := [.lit (.bool true)], args := [d] }
  | _ => none }
def fnExactGoodWeightsRow : OpenClaim := { program := "ytnadkifjnppgcaa", sum := "75d081423192d5d13984fd564c4d7102fadaa68287e1228eefe617bd266e6b36", func := "loop.example/g00300/laws.FnExactGoodWeights", spec := "fnExactGoodWeights", apart := false }
def FnExactGoodWeightsSaid : Prop := fnExactGoodWeightsRow.holds Try.pinned (OpenSpec.ofChange fnExactGoodWeightsSpec)

/-- ITS FALSE NEIGHBOUR: 'it returns false'. Refute it at one input. -/
def fnExactGoodWeightsWrong : ChangeSpec := { name := "fnExactGoodWeights", fn := fun _ => fun
  | [d] => { results := [.lit (.bool false)], args := [d] }
  | _ => none }
def FnExactGoodWeightsWrongFalsely : Prop := fnExactGoodWeightsRow.holds Try.pinned (OpenSpec.ofChange fnExactGoodWeightsWrong)

/-- 'laws.FnExactAliasOf': WHATEVER THE INPUT: true; the input reads as it did. -/
def fnExactAliasOfSpec : ChangeSpec := { name := "fnExactAliasOf", fn := fun _ => fun
  | [d] => { results := [.lit (.bool true)], args := [d] }
  | _ => none }
def fnExactAliasOfRow : OpenClaim := { program := "ytnadkifjnppgcaa", sum := "75d081423192d5d13984fd564c4d7102fadaa68287e1228eefe617bd266e6b36", func := "loop.example/g00300/laws.FnExactAliasOf", spec := "fnExactAliasOf", unfollowed := true, recurses := true, apart := false }
def FnExactAliasOfSaid : Prop := fnExactAliasOfRow.holds Try.pinned (OpenSpec.ofChange fnExactAliasOfSpec)

/-- ITS FALSE NEIGHBOUR: 'it returns false'. Refute it at one input. -/
def fnExactAliasOfWrong : ChangeSpec := { name := "fnExactAliasOf", fn := fun _ => fun
  | [d] => { results := [.lit (.bool false)], args := [d] }
  | _ => none }
def FnExactAliasOfWrongFalsely : Prop := fnExactAliasOfRow.holds Try.pinned (OpenSpec.ofChange fnExactAliasOfWrong)

/-- 'laws.FnExactGoodAlias': WHATEVER THE INPUT: true; the input reads as it did. -/
def fnExactGoodAliasSpec : ChangeSpec := { name := "fnExactGoodAlias", fn := fun _ => fun
  | [d] => { results := [.lit (.bool true)], args := [d] }
  | _ => none }
def fnExactGoodAliasRow : OpenClaim := { program := "ytnadkifjnppgcaa", sum := "75d081423192d5d13984fd564c4d7102fadaa68287e1228eefe617bd266e6b36", func := "loop.example/g00300/laws.FnExactGoodAlias", spec := "fnExactGoodAlias", apart := false }
def FnExactGoodAliasSaid : Prop := fnExactGoodAliasRow.holds Try.pinned (OpenSpec.ofChange fnExactGoodAliasSpec)

/-- ITS FALSE NEIGHBOUR: 'it returns false'. Refute it at one input. -/
def fnExactGoodAliasWrong : ChangeSpec := { name := "fnExactGoodAlias", fn := fun _ => fun
  | [d] => { results := [.lit (.bool false)], args := [d] }
  | _ => none }
def FnExactGoodAliasWrongFalsely : Prop := fnExactGoodAliasRow.holds Try.pinned (OpenSpec.ofChange fnExactGoodAliasWrong)

/-- 'laws.FnExactPickBy': WHATEVER THE INPUT: true; the input reads as it did. -/
def fnExactPickBySpec : ChangeSpec := { name := "fnExactPickBy", fn := fun _ => fun
  | [d1, d2, d3] => { results := [.lit (.bool true)], args := [d1, d2, d3] }
  | _ => none }
def fnExactPickByRow : OpenClaim := { program := "ytnadkifjnppgcaa", sum := "75d081423192d5d13984fd564c4d7102fadaa68287e1228eefe617bd266e6b36", func := "loop.example/g00300/laws.FnExactPickBy", spec := "fnExactPickBy", apart := false }
def FnExactPickBySaid : Prop := fnExactPickByRow.holds Try.pinned (OpenSpec.ofChange fnExactPickBySpec)

/-- ITS FALSE NEIGHBOUR: 'it returns false'. Refute it at one input. -/
def fnExactPickByWrong : ChangeSpec := { name := "fnExactPickBy", fn := fun _ => fun
  | [d1, d2, d3] => { results := [.lit (.bool false)], args := [d1, d2, d3] }
  | _ => none }
def FnExactPickByWrongFalsely : Prop := fnExactPickByRow.holds Try.pinned (OpenSpec.ofChange fnExactPickByWrong)

/-- 'laws.FnExactOftenIn': WHATEVER THE INPUT: true; the input reads as it did. -/
def fnExactOftenInSpec : ChangeSpec := { name := "fnExactOftenIn", fn := fun _ => fun
  | [d1, d2] => { results := [.lit (.bool true)], args := [d1, d2] }
  | _ => none }
def fnExactOftenInRow : OpenClaim := { program := "ytnadkifjnppgcaa", sum := "75d081423192d5d13984fd564c4d7102fadaa68287e1228eefe617bd266e6b36", func := "loop.example/g00300/laws.FnExactOftenIn", spec := "fnExactOftenIn", apart := false }
def FnExactOftenInSaid : Prop := fnExactOftenInRow.holds Try.pinned (OpenSpec.ofChange fnExactOftenInSpec)

/-- ITS FALSE NEIGHBOUR: 'it returns false'. Refute it at one input. -/
def fnExactOftenInWrong : ChangeSpec := { name := "fnExactOftenIn", fn := fun _ => fun
  | [d1, d2] => { results := [.lit (.bool false)], args := [d1, d2] }
  | _ => none }
def FnExactOftenInWrongFalsely : Prop := fnExactOftenInRow.holds Try.pinned (OpenSpec.ofChange fnExactOftenInWrong)

/- THE SECOND FORM. 'bulk': how many values and letters a reading holds, each counted each time it is reached (what is shared counts as often as it is met; a slice's spare places count too). A statement '..UptoSaid' is the law's where the arguments, and the package variables that the reading takes, are together of bulk at most 1048576: NARROWER than '..Said'. Prove '..Said' where nothing that the law and all that it calls make is longer than what came in: it says more and counts as full. Else prove '..UptoSaid'. A law counts once. -/
mutual
def uptoBulk {H : Type} : DataW H → Nat
  | .lit (.string bytes) => bytes.length + 1
  | .lit _ => 1
  | .nil => 1
  | .ptr d => uptoBulk d + 1
  | .slice elems spare => uptoBulkAll elems + uptoBulkAll spare + 1
  | .agg parts => uptoBulkAll parts + 1
  | .iface _ d => uptoBulk d + 1
  | .map entries => uptoBulkEntries entries + 1
  | .held _ => 1
def uptoBulkAll {H : Type} : List (DataW H) → Nat
  | [] => 0
  | d :: r => uptoBulk d + uptoBulkAll r
def uptoBulkEntries {H : Type} : List (Lit × DataW H) → Nat
  | [] => 0
  | x :: r => uptoBulkEntry x + uptoBulkEntries r
def uptoBulkEntry {H : Type} : Lit × DataW H → Nat
  | (.string bytes, d) => bytes.length + uptoBulk d + 1
  | (_, d) => uptoBulk d + 1
 end
def uptoSmall : (H : Type) → List (DataW H) → Bool := fun _ ds => decide (uptoBulkAll ds ≤ 1048576)
def OpenSpec.upto (s : _root_.Go.ChangeSpec) : _root_.Go.OpenSpec := { _root_.Go.OpenSpec.ofChange s with cond := some uptoSmall }

/-- 'laws.FnExactGoodWeights', WHERE WHAT IT READS IS OF BULK AT MOST 1048576: true; the input reads as it did. -/
def fnExactGoodWeightsUptoRow : OpenClaim := { program := "ytnadkifjnppgcaa", sum := "75d081423192d5d13984fd564c4d7102fadaa68287e1228eefe617bd266e6b36", func := "loop.example/g00300/laws.FnExactGoodWeights", spec := "fnExactGoodWeights", apart := false, narrowed := true }
def FnExactGoodWeightsUptoSaid : Prop := fnExactGoodWeightsUptoRow.holds Try.pinned (OpenSpec.upto fnExactGoodWeightsSpec)

/-- 'laws.FnExactAliasOf', WHERE WHAT IT READS IS OF BULK AT MOST 1048576: true; the input reads as it did. -/
def fnExactAliasOfUptoRow : OpenClaim := { program := "ytnadkifjnppgcaa", sum := "75d081423192d5d13984fd564c4d7102fadaa68287e1228eefe617bd266e6b36", func := "loop.example/g00300/laws.FnExactAliasOf", spec := "fnExactAliasOf", unfollowed := true, recurses := true, apart := false, narrowed := true }
def FnExactAliasOfUptoSaid : Prop := fnExactAliasOfUptoRow.holds Try.pinned (OpenSpec.upto fnExactAliasOfSpec)

/-- 'laws.FnExactGoodAlias', WHERE WHAT IT READS IS OF BULK AT MOST 1048576: true; the input reads as it did. -/
def fnExactGoodAliasUptoRow : OpenClaim := { program := "ytnadkifjnppgcaa", sum := "75d081423192d5d13984fd564c4d7102fadaa68287e1228eefe617bd266e6b36", func := "loop.example/g00300/laws.FnExactGoodAlias", spec := "fnExactGoodAlias", apart := false, narrowed := true }
def FnExactGoodAliasUptoSaid : Prop := fnExactGoodAliasUptoRow.holds Try.pinned (OpenSpec.upto fnExactGoodAliasSpec)

/-- 'laws.FnExactPickBy', WHERE WHAT IT READS IS OF BULK AT MOST 1048576: true; the input reads as it did. -/
def fnExactPickByUptoRow : OpenClaim := { program := "ytnadkifjnppgcaa", sum := "75d081423192d5d13984fd564c4d7102fadaa68287e1228eefe617bd266e6b36", func := "loop.example/g00300/laws.FnExactPickBy", spec := "fnExactPickBy", apart := false, narrowed := true }
def FnExactPickByUptoSaid : Prop := fnExactPickByUptoRow.holds Try.pinned (OpenSpec.upto fnExactPickBySpec)

/-- 'laws.FnExactOftenIn', WHERE WHAT IT READS IS OF BULK AT MOST 1048576: true; the input reads as it did. -/
def fnExactOftenInUptoRow : OpenClaim := { program := "ytnadkifjnppgcaa", sum := "75d081423192d5d13984fd564c4d7102fadaa68287e1228eefe617bd266e6b36", func := "loop.example/g00300/laws.FnExactOftenIn", spec := "fnExactOftenIn", apart := false, narrowed := true }
def FnExactOftenInUptoSaid : Prop := fnExactOftenInUptoRow.holds Try.pinned (OpenSpec.upto fnExactOftenInSpec)

end Rows
end Go.Proofs.Ytnadkifjnppgcaa
