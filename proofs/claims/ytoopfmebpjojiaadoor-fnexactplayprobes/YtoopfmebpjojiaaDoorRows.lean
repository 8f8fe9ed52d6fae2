/-
  NARROWER THAN 'FOR EVERY INPUT', by the rows' own cells (each row's printed sentence says how): FnExactNewHealth: laid · FnExactGoodHealth: laid · FnExactTakeProbe: laid · FnExactPlayProbes: laid · FnExactUpIn: laid · FnExactIsUp: laid · FnExactRowOf: laid.
  DERIVED. THE GIVEN ROWS OF THIS SEAT. 7 by the template 'for every input the law returns true; each argument reads behind the call as it read before'; 0 by the template 'total and deterministic' (their statements: YtoopfmebpjojiaaDoorTotals.lean).
  GIVEN WITH THE SEED: the statements are not yours to turn. If you find one false, say at which input.
  Laid BY PROGRAM, IN A SANDBOX (cutbox-rows.mjs): the forced cells as the released guide's own fill.sh prints them over the translation f1566576071a694a… (all of the seat's roots in one cut). By AI agents, Wed Nov 11 2026. No macro, syntax, notation, axiom, sorry.
-/
import Derived.Test.YtoopfmebpjojiaaDoorChecked
import GoSem.PinnedTables
import GoSem.Claim
import GoSem.ClaimJoined
import GoSem.ClaimMapViews
import Derived.JoinedTies
import Derived.KernelRfl
namespace Go.Proofs.YtoopfmebpjojiaaDoor
/- THE CELL 'sum', in the pinned program and in every row, IS THE sha256 OF THE DUMP (.gsa) THAT YtoopfmebpjojiaaDoorProg.lean LOADS. Nothing in Lean hashes anything: it is a label: what it is worth is what the hold of that sum in a sandbox is worth. -/
noncomputable def Tryd.pinned : Pinned := { name := "ytoopfmebpjojiaadoor", sum := "f1566576071a694a907173246d51d8649c5d5ede7cb49c8ac9e9c95d54bd4de8", checked := Tryd.checked }
namespace Rows
def none {H : Type} : Left H := { results := [], args := [] }

/- WHAT THE LISTED PACKAGE-LEVEL VARIABLES READ AS WHEN THE CALL BEGINS. Each datum BY PROGRAM (the guide's laid-datum.mjs) off the statement by which the dump's own 'gosem.cut.vars' lays the variable. In a bare row this is a premise. The card (YtoopfmebpjojiaaDoorCards.lean) ties it to the program's text. -/
def laid_unicode_utf8_acceptRanges {H : Type} : DataW H := .agg [.agg [.lit (.int .u8 128), .lit (.int .u8 191)], .agg [.lit (.int .u8 160), .lit (.int .u8 191)], .agg [.lit (.int .u8 128), .lit (.int .u8 159)], .agg [.lit (.int .u8 144), .lit (.int .u8 191)], .agg [.lit (.int .u8 128), .lit (.int .u8 143)], .agg [.lit (.int .u8 0), .lit (.int .u8 0)], .agg [.lit (.int .u8 0), .lit (.int .u8 0)], .agg [.lit (.int .u8 0), .lit (.int .u8 0)], .agg [.lit (.int .u8 0), .lit (.int .u8 0)], .agg [.lit (.int .u8 0), .lit (.int .u8 0)], .agg [.lit (.int .u8 0), .lit (.int .u8 0)], .agg [.lit (.int .u8 0), .lit (.int .u8 0)], .agg [.lit (.int .u8 0), .lit (.int .u8 0)], .agg [.lit (.int .u8 0), .lit (.int .u8 0)], .agg [.lit (.int .u8 0), .lit (.int .u8 0)], .agg [.lit (.int .u8 0), .lit (.int .u8 0)]]
def laid_loop_example_g00300_impl_byteRanges {H : Type} : DataW H := .agg [.agg [.lit (.int .u8 45), .lit (.int .u8 45), .lit (.int .i64 1)], .agg [.lit (.int .u8 48), .lit (.int .u8 57), .lit (.int .i64 1)], .agg [.lit (.int .u8 65), .lit (.int .u8 90), .lit (.int .i64 2)], .agg [.lit (.int .u8 95), .lit (.int .u8 95), .lit (.int .i64 1)], .agg [.lit (.int .u8 97), .lit (.int .u8 122), .lit (.int .i64 1)]]
/-- One of Go's own tables, pinned by name: the form's constant. -/
def laid_unicode_utf8_first : DataW Unit := Go.Pinned.utf8First

/-- 'laws.FnExactNewHealth': WHATEVER THE INPUT: true; the input reads as it did. -/
def fnExactNewHealthSpec : ChangeSpec := { name := "fnExactNewHealth", vars := ["loop.example/g00300/impl.byteRanges"], fn := fun _ => fun
  | [d1, d2, d3, g1] => { results := [.lit (.bool true)], args := [d1, d2, d3], vars := [g1] }
  | _ => none }
def fnExactNewHealthRow : OpenClaim := { program := "ytoopfmebpjojiaadoor", sum := "f1566576071a694a907173246d51d8649c5d5ede7cb49c8ac9e9c95d54bd4de8", func := "loop.example/g00300/laws.FnExactNewHealth", spec := "fnExactNewHealth", inPlace := ["internal/bytealg.CountString", "internal/bytealg.IndexByteString", "internal/bytealg.IndexString"], unfollowed := true, recurses := true, named := ["unicode/utf8.first", "unicode/utf8.acceptRanges", "internal/bytealg.MaxLen", "loop.example/g00300/impl.byteRanges"], apart := false, laid := [("unicode/utf8.acceptRanges", laid_unicode_utf8_acceptRanges), ("loop.example/g00300/impl.byteRanges", laid_loop_example_g00300_impl_byteRanges), ("unicode/utf8.first", laid_unicode_utf8_first)] }
def FnExactNewHealthSaid : Prop := fnExactNewHealthRow.holds Tryd.pinned (OpenSpec.ofChange fnExactNewHealthSpec)

/-- ITS FALSE NEIGHBOUR: 'it returns false'. Refute it at one input. -/
def fnExactNewHealthWrong : ChangeSpec := { name := "fnExactNewHealth", vars := ["loop.example/g00300/impl.byteRanges"], fn := fun _ => fun
  | [d1, d2, d3, g1] => { results := [.lit (.bool false)], args := [d1, d2, d3], vars := [g1] }
  | _ => none }
def FnExactNewHealthWrongFalsely : Prop := fnExactNewHealthRow.holds Tryd.pinned (OpenSpec.ofChange fnExactNewHealthWrong)

/-- 'laws.FnExactGoodHealth': WHATEVER THE INPUT: true; the input reads as it did. -/
def fnExactGoodHealthSpec : ChangeSpec := { name := "fnExactGoodHealth", vars := ["loop.example/g00300/impl.byteRanges"], fn := fun _ => fun
  | [d, g1] => { results := [.lit (.bool true)], args := [d], vars := [g1] }
  | _ => none }
def fnExactGoodHealthRow : OpenClaim := { program := "ytoopfmebpjojiaadoor", sum := "f1566576071a694a907173246d51d8649c5d5ede7cb49c8ac9e9c95d54bd4de8", func := "loop.example/g00300/laws.FnExactGoodHealth", spec := "fnExactGoodHealth", inPlace := ["internal/bytealg.CountString", "internal/bytealg.IndexByteString", "internal/bytealg.IndexString"], unfollowed := true, recurses := true, named := ["unicode/utf8.first", "unicode/utf8.acceptRanges", "internal/bytealg.MaxLen", "loop.example/g00300/impl.byteRanges"], apart := false, laid := [("unicode/utf8.acceptRanges", laid_unicode_utf8_acceptRanges), ("loop.example/g00300/impl.byteRanges", laid_loop_example_g00300_impl_byteRanges), ("unicode/utf8.first", laid_unicode_utf8_first)] }
def FnExactGoodHealthSaid : Prop := fnExactGoodHealthRow.holds Tryd.pinned (OpenSpec.ofChange fnExactGoodHealthSpec)

/-- ITS FALSE NEIGHBOUR: 'it returns false'. Refute it at one input. -/
def fnExactGoodHealthWrong : ChangeSpec := { name := "fnExactGoodHealth", vars := ["loop.example/g00300/impl.byteRanges"], fn := fun _ => fun
  | [d, g1] => { results := [.lit (.bool false)], args := [d], vars := [g1] }
  | _ => none }
def FnExactGoodHealthWrongFalsely : Prop := fnExactGoodHealthRow.holds Tryd.pinned (OpenSpec.ofChange fnExactGoodHealthWrong)

/-- 'laws.FnExactTakeProbe': WHATEVER THE INPUT: true; the input reads as it did. -/
def fnExactTakeProbeSpec : ChangeSpec := { name := "fnExactTakeProbe", vars := ["loop.example/g00300/impl.byteRanges"], fn := fun _ => fun
  | [d1, d2, g1] => { results := [.lit (.bool true)], args := [d1, d2], vars := [g1] }
  | _ => none }
def fnExactTakeProbeRow : OpenClaim := { program := "ytoopfmebpjojiaadoor", sum := "f1566576071a694a907173246d51d8649c5d5ede7cb49c8ac9e9c95d54bd4de8", func := "loop.example/g00300/laws.FnExactTakeProbe", spec := "fnExactTakeProbe", inPlace := ["internal/bytealg.CountString", "internal/bytealg.IndexByteString", "internal/bytealg.IndexString"], unfollowed := true, recurses := true, named := ["unicode/utf8.first", "unicode/utf8.acceptRanges", "internal/bytealg.MaxLen", "loop.example/g00300/impl.byteRanges"], apart := false, laid := [("unicode/utf8.acceptRanges", laid_unicode_utf8_acceptRanges), ("loop.example/g00300/impl.byteRanges", laid_loop_example_g00300_impl_byteRanges), ("unicode/utf8.first", laid_unicode_utf8_first)] }
def FnExactTakeProbeSaid : Prop := fnExactTakeProbeRow.holds Tryd.pinned (OpenSpec.ofChange fnExactTakeProbeSpec)

/-- ITS FALSE NEIGHBOUR: 'it returns false'. Refute it at one input. -/
def fnExactTakeProbeWrong : ChangeSpec := { name := "fnExactTakeProbe", vars := ["loop.example/g00300/impl.byteRanges"], fn := fun _ => fun
  | [d1, d2, g1] => { results := [.lit (.bool false)], args := [d1, d2], vars := [g1] }
  | _ => none }
def FnExactTakeProbeWrongFalsely : Prop := fnExactTakeProbeRow.holds Tryd.pinned (OpenSpec.ofChange fnExactTakeProbeWrong)

/-- 'laws.FnExactPlayProbes': WHATEVER THE INPUT: true; the input reads as it did. -/
def fnExactPlayProbesSpec : ChangeSpec := { name := "fnExactPlayProbes", vars := ["loop.example/g00300/impl.byteRanges"], fn := fun _ => fun
  | [d1, d2, d3, d4, g1] => { results := [.lit (.bool true)], args := [d1, d2, d3, d4], vars := [g1] }
  | _ => none }
def fnExactPlayProbesRow : OpenClaim := { program := "ytoopfmebpjojiaadoor", sum := "f1566576071a694a907173246d51d8649c5d5ede7cb49c8ac9e9c95d54bd4de8", func := "loop.example/g00300/laws.FnExactPlayProbes", spec := "fnExactPlayProbes", inPlace := ["internal/bytealg.CountString", "internal/bytealg.IndexByteString", "internal/bytealg.IndexString"], unfollowed := true, recurses := true, named := ["unicode/utf8.first", "unicode/utf8.acceptRanges", "internal/bytealg.MaxLen", "loop.example/g00300/impl.byteRanges"], apart := false, laid := [("unicode/utf8.acceptRanges", laid_unicode_utf8_acceptRanges), ("loop.example/g00300/impl.byteRanges", laid_loop_example_g00300_impl_byteRanges), ("unicode/utf8.first", laid_unicode_utf8_first)] }
def FnExactPlayProbesSaid : Prop := fnExactPlayProbesRow.holds Tryd.pinned (OpenSpec.ofChange fnExactPlayProbesSpec)

/-- ITS FALSE NEIGHBOUR: 'it returns false'. Refute it at one input. -/
def fnExactPlayProbesWrong : ChangeSpec := { name := "fnExactPlayProbes", vars := ["loop.example/g00300/impl.byteRanges"], fn := fun _ => fun
  | [d1, d2, d3, d4, g1] => { results := [.lit (.bool false)], args := [d1, d2, d3, d4], vars := [g1] }
  | _ => none }
def FnExactPlayProbesWrongFalsely : Prop := fnExactPlayProbesRow.holds Tryd.pinned (OpenSpec.ofChange fnExactPlayProbesWrong)

/-- 'laws.FnExactUpIn': WHATEVER THE INPUT: true; the input reads as it did. -/
def fnExactUpInSpec : ChangeSpec := { name := "fnExactUpIn", vars := ["loop.example/g00300/impl.byteRanges"], fn := fun _ => fun
  | [d, g1] => { results := [.lit (.bool true)], args := [d], vars := [g1] }
  | _ => none }
def fnExactUpInRow : OpenClaim := { program := "ytoopfmebpjojiaadoor", sum := "f1566576071a694a907173246d51d8649c5d5ede7cb49c8ac9e9c95d54bd4de8", func := "loop.example/g00300/laws.FnExactUpIn", spec := "fnExactUpIn", inPlace := ["internal/bytealg.CountString", "internal/bytealg.IndexByteString", "internal/bytealg.IndexString"], unfollowed := true, recurses := true, named := ["unicode/utf8.first", "unicode/utf8.acceptRanges", "internal/bytealg.MaxLen", "loop.example/g00300/impl.byteRanges"], apart := false, laid := [("unicode/utf8.acceptRanges", laid_unicode_utf8_acceptRanges), ("loop.example/g00300/impl.byteRanges", laid_loop_example_g00300_impl_byteRanges), ("unicode/utf8.first", laid_unicode_utf8_first)] }
def FnExactUpInSaid : Prop := fnExactUpInRow.holds Tryd.pinned (OpenSpec.ofChange fnExactUpInSpec)

/-- ITS FALSE NEIGHBOUR: 'it returns false'. Refute it at one input. -/
def fnExactUpInWrong : ChangeSpec := { name := "fnExactUpIn", vars := ["loop.example/g00300/impl.byteRanges"], fn := fun _ => fun
  | [d, g1] => { results := [.lit (.bool false)], args := [d], vars := [g1] }
  | _ => none }
def FnExactUpInWrongFalsely : Prop := fnExactUpInRow.holds Tryd.pinned (OpenSpec.ofChange fnExactUpInWrong)

/-- 'laws.FnExactIsUp': WHATEVER THE INPUT: true; the input reads as it did. -/
def fnExactIsUpSpec : ChangeSpec := { name := "fnExactIsUp", vars := ["loop.example/g00300/impl.byteRanges"], fn := fun _ => fun
  | [d1, d2, g1] => { results := [.lit (.bool true)], args := [d1, d2], vars := [g1] }
  | _ => none }
def fnExactIsUpRow : OpenClaim := { program := "ytoopfmebpjojiaadoor", sum := "f1566576071a694a907173246d51d8649c5d5ede7cb49c8ac9e9c95d54bd4de8", func := "loop.example/g00300/laws.FnExactIsUp", spec := "fnExactIsUp", inPlace := ["internal/bytealg.CountString", "internal/bytealg.IndexByteString", "internal/bytealg.IndexString"], unfollowed := true, recurses := true, named := ["unicode/utf8.first", "unicode/utf8.acceptRanges", "internal/bytealg.MaxLen", "loop.example/g00300/impl.byteRanges"], apart := false, laid := [("unicode/utf8.acceptRanges", laid_unicode_utf8_acceptRanges), ("loop.example/g00300/impl.byteRanges", laid_loop_example_g00300_impl_byteRanges), ("unicode/utf8.first", laid_unicode_utf8_first)] }
def FnExactIsUpSaid : Prop := fnExactIsUpRow.holds Tryd.pinned (OpenSpec.ofChange fnExactIsUpSpec)

/-- ITS FALSE NEIGHBOUR: 'it returns false'. Refute it at one input. -/
def fnExactIsUpWrong : ChangeSpec := { name := "fnExactIsUp", vars := ["loop.example/g00300/impl.byteRanges"], fn := fun _ => fun
  | [d1, d2, g1] => { results := [.lit (.bool false)], args := [d1, d2], vars := [g1] }
  | _ => none }
def FnExactIsUpWrongFalsely : Prop := fnExactIsUpRow.holds Tryd.pinned (OpenSpec.ofChange fnExactIsUpWrong)

/-- 'laws.FnExactRowOf': WHATEVER THE INPUT: true; the input reads as it did. -/
def fnExactRowOfSpec : ChangeSpec := { name := "fnExactRowOf", vars := ["loop.example/g00300/impl.byteRanges"], fn := fun _ => fun
  | [d1, d2, g1] => { results := [.lit (.bool true)], args := [d1, d2], vars := [g1] }
  | _ => none }
def fnExactRowOfRow : OpenClaim := { program := "ytoopfmebpjojiaadoor", sum := "f1566576071a694a907173246d51d8649c5d5ede7cb49c8ac9e9c95d54bd4de8", func := "loop.example/g00300/laws.FnExactRowOf", spec := "fnExactRowOf", inPlace := ["internal/bytealg.CountString", "internal/bytealg.IndexByteString", "internal/bytealg.IndexString"], unfollowed := true, recurses := true, named := ["unicode/utf8.first", "unicode/utf8.acceptRanges", "internal/bytealg.MaxLen", "loop.example/g00300/impl.byteRanges"], apart := false, laid := [("unicode/utf8.acceptRanges", laid_unicode_utf8_acceptRanges), ("loop.example/g00300/impl.byteRanges", laid_loop_example_g00300_impl_byteRanges), ("unicode/utf8.first", laid_unicode_utf8_first)] }
def FnExactRowOfSaid : Prop := fnExactRowOfRow.holds Tryd.pinned (OpenSpec.ofChange fnExactRowOfSpec)

/-- ITS FALSE NEIGHBOUR: 'it returns false'. Refute it at one input. -/
def fnExactRowOfWrong : ChangeSpec := { name := "fnExactRowOf", vars := ["loop.example/g00300/impl.byteRanges"], fn := fun _ => fun
  | [d1, d2, g1] => { results := [.lit (.bool false)], args := [d1, d2], vars := [g1] }
  | _ => none }
def FnExactRowOfWrongFalsely : Prop := fnExactRowOfRow.holds Tryd.pinned (OpenSpec.ofChange fnExactRowOfWrong)

/- THE SECOND FORM. 'bulk': how many values and letters a reading holds, each counted each time it is reached (what is shared counts as often as it is met; a slice's spare places count too). A statement '..UptoSaid' is the law's where the arguments, and the package variables that the reading takes, are together of bulk at most 1048576: NARROWER than '..Said'. Prove '..Said' where nothing that the law and all that it calls make is longer than what came in: it says more and counts as full. Else prove '..UptoSaid'. A law counts once. -/
mutual
def uptoBulk {H : Type} : DataW H → Nat
  | .lit (.string bytes) => bytes.length + 1
  | .lit _ => 1
  | .nil => 1
  | .ptr d => uptoBulk d + 1
  | .slice elems spare => uptoBulkAll elems + uptoBulkAll spare + 1
  | .agg parts => uptoBulkAll parts + 1
  | .iface _ d => uptoBulk d + 1
  | .map entries => uptoBulkEntries entries + 1
  | .held _ => 1
def uptoBulkAll {H : Type} : List (DataW H) → Nat
  | [] => 0
  | d :: r => uptoBulk d + uptoBulkAll r
def uptoBulkEntries {H : Type} : List (Lit × DataW H) → Nat
  | [] => 0
  | x :: r => uptoBulkEntry x + uptoBulkEntries r
def uptoBulkEntry {H : Type} : Lit × DataW H → Nat
  | (.string bytes, d) => bytes.length + uptoBulk d + 1
  | (_, d) => uptoBulk d + 1
 end
def uptoSmall : (H : Type) → List (DataW H) → Bool := fun _ ds => decide (uptoBulkAll ds ≤ 1048576)
def OpenSpec.upto (s : _root_.Go.ChangeSpec) : _root_.Go.OpenSpec := { _root_.Go.OpenSpec.ofChange s with cond := some uptoSmall }

/-- 'laws.FnExactNewHealth', WHERE WHAT IT READS IS OF BULK AT MOST 1048576: true; the input reads as it did. -/
def fnExactNewHealthUptoRow : OpenClaim := { program := "ytoopfmebpjojiaadoor", sum := "f1566576071a694a907173246d51d8649c5d5ede7cb49c8ac9e9c95d54bd4de8", func := "loop.example/g00300/laws.FnExactNewHealth", spec := "fnExactNewHealth", inPlace := ["internal/bytealg.CountString", "internal/bytealg.IndexByteString", "internal/bytealg.IndexString"], unfollowed := true, recurses := true, named := ["unicode/utf8.first", "unicode/utf8.acceptRanges", "internal/bytealg.MaxLen", "loop.example/g00300/impl.byteRanges"], apart := false, laid := [("unicode/utf8.acceptRanges", laid_unicode_utf8_acceptRanges), ("loop.example/g00300/impl.byteRanges", laid_loop_example_g00300_impl_byteRanges), ("unicode/utf8.first", laid_unicode_utf8_first)], narrowed := true }
def FnExactNewHealthUptoSaid : Prop := fnExactNewHealthUptoRow.holds Tryd.pinned (OpenSpec.upto fnExactNewHealthSpec)

/-- 'laws.FnExactGoodHealth', WHERE WHAT IT READS IS OF BULK AT MOST 1048576: true; the input reads as it did. -/
def fnExactGoodHealthUptoRow : OpenClaim := { program := "ytoopfmebpjojiaadoor", sum := "f1566576071a694a907173246d51d8649c5d5ede7cb49c8ac9e9c95d54bd4de8", func := "loop.example/g00300/laws.FnExactGoodHealth", spec := "fnExactGoodHealth", inPlace := ["internal/bytealg.CountString", "internal/bytealg.IndexByteString", "internal/bytealg.IndexString"], unfollowed := true, recurses := true, named := ["unicode/utf8.first", "unicode/utf8.acceptRanges", "internal/bytealg.MaxLen", "loop.example/g00300/impl.byteRanges"], apart := false, laid := [("unicode/utf8.acceptRanges", laid_unicode_utf8_acceptRanges), ("loop.example/g00300/impl.byteRanges", laid_loop_example_g00300_impl_byteRanges), ("unicode/utf8.first", laid_unicode_utf8_first)], narrowed := true }
def FnExactGoodHealthUptoSaid : Prop := fnExactGoodHealthUptoRow.holds Tryd.pinned (OpenSpec.upto fnExactGoodHealthSpec)

/-- 'laws.FnExactTakeProbe', WHERE WHAT IT READS IS OF BULK AT MOST 1048576: true; the input reads as it did. -/
def fnExactTakeProbeUptoRow : OpenClaim := { program := "ytoopfmebpjojiaadoor", sum := "f1566576071a694a907173246d51d8649c5d5ede7cb49c8ac9e9c95d54bd4de8", func := "loop.example/g00300/laws.FnExactTakeProbe", spec := "fnExactTakeProbe", inPlace := ["internal/bytealg.CountString", "internal/bytealg.IndexByteString", "internal/bytealg.IndexString"], unfollowed := true, recurses := true, named := ["unicode/utf8.first", "unicode/utf8.acceptRanges", "internal/bytealg.MaxLen", "loop.example/g00300/impl.byteRanges"], apart := false, laid := [("unicode/utf8.acceptRanges", laid_unicode_utf8_acceptRanges), ("loop.example/g00300/impl.byteRanges", laid_loop_example_g00300_impl_byteRanges), ("unicode/utf8.first", laid_unicode_utf8_first)], narrowed := true }
def FnExactTakeProbeUptoSaid : Prop := fnExactTakeProbeUptoRow.holds Tryd.pinned (OpenSpec.upto fnExactTakeProbeSpec)

/-- 'laws.FnExactPlayProbes', WHERE WHAT IT READS IS OF BULK AT MOST 1048576: true; the input reads as it did. -/
def fnExactPlayProbesUptoRow : OpenClaim := { program := "ytoopfmebpjojiaadoor", sum := "f1566576071a694a907173246d51d8649c5d5ede7cb49c8ac9e9c95d54bd4de8", func := "loop.example/g00300/laws.FnExactPlayProbes", spec := "fnExactPlayProbes", inPlace := ["internal/bytealg.CountString", "internal/bytealg.IndexByteString", "internal/bytealg.IndexString"], unfollowed := true, recurses := true, named := ["unicode/utf8.first", "unicode/utf8.acceptRanges", "internal/bytealg.MaxLen", "loop.example/g00300/impl.byteRanges"], apart := false, laid := [("unicode/utf8.acceptRanges", laid_unicode_utf8_acceptRanges), ("loop.example/g00300/impl.byteRanges", laid_loop_example_g00300_impl_byteRanges), ("unicode/utf8.first", laid_unicode_utf8_first)], narrowed := true }
def FnExactPlayProbesUptoSaid : Prop := fnExactPlayProbesUptoRow.holds Tryd.pinned (OpenSpec.upto fnExactPlayProbesSpec)

/-- 'laws.FnExactUpIn', WHERE WHAT IT READS IS OF BULK AT MOST 1048576: true; the input reads as it did. -/
def fnExactUpInUptoRow : OpenClaim := { program := "ytoopfmebpjojiaadoor", sum := "f1566576071a694a907173246d51d8649c5d5ede7cb49c8ac9e9c95d54bd4de8", func := "loop.example/g00300/laws.FnExactUpIn", spec := "fnExactUpIn", inPlace := ["internal/bytealg.CountString", "internal/bytealg.IndexByteString", "internal/bytealg.IndexString"], unfollowed := true, recurses := true, named := ["unicode/utf8.first", "unicode/utf8.acceptRanges", "internal/bytealg.MaxLen", "loop.example/g00300/impl.byteRanges"], apart := false, laid := [("unicode/utf8.acceptRanges", laid_unicode_utf8_acceptRanges), ("loop.example/g00300/impl.byteRanges", laid_loop_example_g00300_impl_byteRanges), ("unicode/utf8.first", laid_unicode_utf8_first)], narrowed := true }
def FnExactUpInUptoSaid : Prop := fnExactUpInUptoRow.holds Tryd.pinned (OpenSpec.upto fnExactUpInSpec)

/-- 'laws.FnExactIsUp', WHERE WHAT IT READS IS OF BULK AT MOST 1048576: true; the input reads as it did. -/
def fnExactIsUpUptoRow : OpenClaim := { program := "ytoopfmebpjojiaadoor", sum := "f1566576071a694a907173246d51d8649c5d5ede7cb49c8ac9e9c95d54bd4de8", func := "loop.example/g00300/laws.FnExactIsUp", spec := "fnExactIsUp", inPlace := ["internal/bytealg.CountString", "internal/bytealg.IndexByteString", "internal/bytealg.IndexString"], unfollowed := true, recurses := true, named := ["unicode/utf8.first", "unicode/utf8.acceptRanges", "internal/bytealg.MaxLen", "loop.example/g00300/impl.byteRanges"], apart := false, laid := [("unicode/utf8.acceptRanges", laid_unicode_utf8_acceptRanges), ("loop.example/g00300/impl.byteRanges", laid_loop_example_g00300_impl_byteRanges), ("unicode/utf8.first", laid_unicode_utf8_first)], narrowed := true }
def FnExactIsUpUptoSaid : Prop := fnExactIsUpUptoRow.holds Tryd.pinned (OpenSpec.upto fnExactIsUpSpec)

/-- 'laws.FnExactRowOf', WHERE WHAT IT READS IS OF BULK AT MOST 1048576: true; the input reads as it did. -/
def fnExactRowOfUptoRow : OpenClaim := { program := "ytoopfmebpjojiaadoor", sum := "f1566576071a694a907173246d51d8649c5d5ede7cb49c8ac9e9c95d54bd4de8", func := "loop.example/g00300/laws.FnExactRowOf", spec := "fnExactRowOf", inPlace := ["internal/bytealg.CountString", "internal/bytealg.IndexByteString", "internal/bytealg.IndexString"], unfollowed := true, recurses := true, named := ["unicode/utf8.first", "unicode/utf8.acceptRanges", "internal/bytealg.MaxLen", "loop.example/g00300/impl.byteRanges"], apart := false, laid := [("unicode/utf8.acceptRanges", laid_unicode_utf8_acceptRanges), ("loop.example/g00300/impl.byteRanges", laid_loop_example_g00300_impl_byteRanges), ("unicode/utf8.first", laid_unicode_utf8_first)], narrowed := true }
def FnExactRowOfUptoSaid : Prop := fnExactRowOfUptoRow.holds Tryd.pinned (OpenSpec.upto fnExactRowOfSpec)

end Rows
end Go.Proofs.YtoopfmebpjojiaaDoor
