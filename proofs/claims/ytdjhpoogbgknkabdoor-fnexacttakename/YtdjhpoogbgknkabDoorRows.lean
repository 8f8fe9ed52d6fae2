/-
  NARROWER THAN 'FOR EVERY INPUT', by the rows' own cells (each row's printed sentence says how): FnExactSortNames: laid · FnExactFoldName: laid · FnExactCommonOf: laid · FnExactWildOf: laid · FnExactNameBytes: laid · FnExactTakeName: laid.
  DERIVED. THE GIVEN ROWS OF THIS SEAT. 6 by the template 'for every input the law returns true; each argument reads behind the call as it read before'; 0 by the template 'total and deterministic' (their statements: YtdjhpoogbgknkabDoorTotals.lean).
  GIVEN WITH THE SEED: the statements are not yours to turn. If you find one false, say at which input.
  Laid BY PROGRAM, IN A SANDBOX (cutbox-rows.mjs): the forced cells as the released guide's own fill.sh prints them over the translation 854bc8d5e6f34ec2… (all of the seat's roots in one cut). By AI agents, Wed Nov 11 2026. No macro, syntax, notation, axiom, sorry.
-/
import Derived.Test.YtdjhpoogbgknkabDoorChecked
import GoSem.PinnedTables
import GoSem.Claim
import GoSem.ClaimJoined
import GoSem.ClaimMapViews
import Derived.JoinedTies
import Derived.KernelRfl
namespace Go.Proofs.YtdjhpoogbgknkabDoor
/- THE CELL 'sum', in the pinned program and in every row, IS THE sha256 OF THE DUMP (.gsa) THAT YtdjhpoogbgknkabDoorProg.lean LOADS. Nothing in Lean hashes anything: it is a label: what it is worth is what the hold of that sum in a sandbox is worth. -/
noncomputable def Tryd.pinned : Pinned := { name := "ytdjhpoogbgknkabdoor", sum := "854bc8d5e6f34ec2881e6d4528590114d431af6e0309dac2c759f0959281ce88", checked := Tryd.checked }
namespace Rows
def none {H : Type} : Left H := { results := [], args := [] }

/- WHAT THE LISTED PACKAGE-LEVEL VARIABLES READ AS WHEN THE CALL BEGINS. Each datum BY PROGRAM (the guide's laid-datum.mjs) off the statement by which the dump's own 'gosem.cut.vars' lays the variable. In a bare row this is a premise. The card (YtdjhpoogbgknkabDoorCards.lean) ties it to the program's text. -/
def laid_unicode_utf8_acceptRanges {H : Type} : DataW H := .agg [.agg [.lit (.int .u8 128), .lit (.int .u8 191)], .agg [.lit (.int .u8 160), .lit (.int .u8 191)], .agg [.lit (.int .u8 128), .lit (.int .u8 159)], .agg [.lit (.int .u8 144), .lit (.int .u8 191)], .agg [.lit (.int .u8 128), .lit (.int .u8 143)], .agg [.lit (.int .u8 0), .lit (.int .u8 0)], .agg [.lit (.int .u8 0), .lit (.int .u8 0)], .agg [.lit (.int .u8 0), .lit (.int .u8 0)], .agg [.lit (.int .u8 0), .lit (.int .u8 0)], .agg [.lit (.int .u8 0), .lit (.int .u8 0)], .agg [.lit (.int .u8 0), .lit (.int .u8 0)], .agg [.lit (.int .u8 0), .lit (.int .u8 0)], .agg [.lit (.int .u8 0), .lit (.int .u8 0)], .agg [.lit (.int .u8 0), .lit (.int .u8 0)], .agg [.lit (.int .u8 0), .lit (.int .u8 0)], .agg [.lit (.int .u8 0), .lit (.int .u8 0)]]
def laid_loop_example_g00300_impl_byteRanges {H : Type} : DataW H := .agg [.agg [.lit (.int .u8 45), .lit (.int .u8 45), .lit (.int .i64 1)], .agg [.lit (.int .u8 48), .lit (.int .u8 57), .lit (.int .i64 1)], .agg [.lit (.int .u8 65), .lit (.int .u8 90), .lit (.int .i64 2)], .agg [.lit (.int .u8 95), .lit (.int .u8 95), .lit (.int .i64 1)], .agg [.lit (.int .u8 97), .lit (.int .u8 122), .lit (.int .i64 1)]]
/-- One of Go's own tables, pinned by name: the form's constant. -/
def laid_unicode_utf8_first : DataW Unit := Go.Pinned.utf8First

/-- 'laws.FnExactSortNames': WHATEVER THE INPUT: true; the input reads as it did. -/
def fnExactSortNamesSpec : ChangeSpec := { name := "fnExactSortNames", vars := ["loop.example/g00300/impl.byteRanges"], fn := fun _ => fun
  | [d, g1] => { results := [.lit (.bool true)], args := [d], vars := [g1] }
  | _ => none }
def fnExactSortNamesRow : OpenClaim := { program := "ytdjhpoogbgknkabdoor", sum := "854bc8d5e6f34ec2881e6d4528590114d431af6e0309dac2c759f0959281ce88", func := "loop.example/g00300/laws.FnExactSortNames", spec := "fnExactSortNames", inPlace := ["internal/bytealg.CountString", "internal/bytealg.IndexByteString", "internal/bytealg.IndexString", "internal/bytealg.abigen_runtime_cmpstring"], unfollowed := true, recurses := true, named := ["unicode/utf8.first", "unicode/utf8.acceptRanges", "internal/bytealg.MaxLen", "loop.example/g00300/impl.byteRanges"], apart := false, laid := [("unicode/utf8.acceptRanges", laid_unicode_utf8_acceptRanges), ("loop.example/g00300/impl.byteRanges", laid_loop_example_g00300_impl_byteRanges), ("unicode/utf8.first", laid_unicode_utf8_first)] }
def FnExactSortNamesSaid : Prop := fnExactSortNamesRow.holds Tryd.pinned (OpenSpec.ofChange fnExactSortNamesSpec)

/-- ITS FALSE NEIGHBOUR: 'it returns false'. Refute it at one input. -/
def fnExactSortNamesWrong : ChangeSpec := { name := "fnExactSortNames", vars := ["loop.example/g00300/impl.byteRanges"], fn := fun _ => fun
  | [d, g1] => { results := [.lit (.bool false)], args := [d], vars := [g1] }
  | _ => none }
def FnExactSortNamesWrongFalsely : Prop := fnExactSortNamesRow.holds Tryd.pinned (OpenSpec.ofChange fnExactSortNamesWrong)

/-- 'laws.FnExactFoldName': WHATEVER THE INPUT: true; the input reads as it did. -/
def fnExactFoldNameSpec : ChangeSpec := { name := "fnExactFoldName", vars := ["loop.example/g00300/impl.byteRanges"], fn := fun _ => fun
  | [d, g1] => { results := [.lit (.bool true)], args := [d], vars := [g1] }
  | _ => none }
def fnExactFoldNameRow : OpenClaim := { program := "ytdjhpoogbgknkabdoor", sum := "854bc8d5e6f34ec2881e6d4528590114d431af6e0309dac2c759f0959281ce88", func := "loop.example/g00300/laws.FnExactFoldName", spec := "fnExactFoldName", inPlace := ["internal/bytealg.CountString", "internal/bytealg.IndexByteString", "internal/bytealg.IndexString"], named := ["loop.example/g00300/impl.byteRanges", "unicode/utf8.first", "unicode/utf8.acceptRanges", "internal/bytealg.MaxLen"], apart := false, laid := [("unicode/utf8.acceptRanges", laid_unicode_utf8_acceptRanges), ("loop.example/g00300/impl.byteRanges", laid_loop_example_g00300_impl_byteRanges), ("unicode/utf8.first", laid_unicode_utf8_first)] }
def FnExactFoldNameSaid : Prop := fnExactFoldNameRow.holds Tryd.pinned (OpenSpec.ofChange fnExactFoldNameSpec)

/-- ITS FALSE NEIGHBOUR: 'it returns false'. Refute it at one input. -/
def fnExactFoldNameWrong : ChangeSpec := { name := "fnExactFoldName", vars := ["loop.example/g00300/impl.byteRanges"], fn := fun _ => fun
  | [d, g1] => { results := [.lit (.bool false)], args := [d], vars := [g1] }
  | _ => none }
def FnExactFoldNameWrongFalsely : Prop := fnExactFoldNameRow.holds Tryd.pinned (OpenSpec.ofChange fnExactFoldNameWrong)

/-- 'laws.FnExactCommonOf': WHATEVER THE INPUT: true; the input reads as it did. -/
def fnExactCommonOfSpec : ChangeSpec := { name := "fnExactCommonOf", vars := ["loop.example/g00300/impl.byteRanges"], fn := fun _ => fun
  | [d1, d2, g1] => { results := [.lit (.bool true)], args := [d1, d2], vars := [g1] }
  | _ => none }
def fnExactCommonOfRow : OpenClaim := { program := "ytdjhpoogbgknkabdoor", sum := "854bc8d5e6f34ec2881e6d4528590114d431af6e0309dac2c759f0959281ce88", func := "loop.example/g00300/laws.FnExactCommonOf", spec := "fnExactCommonOf", inPlace := ["internal/bytealg.CountString", "internal/bytealg.IndexByteString", "internal/bytealg.IndexString"], named := ["unicode/utf8.first", "unicode/utf8.acceptRanges", "internal/bytealg.MaxLen", "loop.example/g00300/impl.byteRanges"], apart := false, laid := [("unicode/utf8.acceptRanges", laid_unicode_utf8_acceptRanges), ("loop.example/g00300/impl.byteRanges", laid_loop_example_g00300_impl_byteRanges), ("unicode/utf8.first", laid_unicode_utf8_first)] }
def FnExactCommonOfSaid : Prop := fnExactCommonOfRow.holds Tryd.pinned (OpenSpec.ofChange fnExactCommonOfSpec)

/-- ITS FALSE NEIGHBOUR: 'it returns false'. Refute it at one input. -/
def fnExactCommonOfWrong : ChangeSpec := { name := "fnExactCommonOf", vars := ["loop.example/g00300/impl.byteRanges"], fn := fun _ => fun
  | [d1, d2, g1] => { results := [.lit (.bool false)], args := [d1, d2], vars := [g1] }
  | _ => none }
def FnExactCommonOfWrongFalsely : Prop := fnExactCommonOfRow.holds Tryd.pinned (OpenSpec.ofChange fnExactCommonOfWrong)

/-- 'laws.FnExactWildOf': WHATEVER THE INPUT: true; the input reads as it did. -/
def fnExactWildOfSpec : ChangeSpec := { name := "fnExactWildOf", vars := ["loop.example/g00300/impl.byteRanges"], fn := fun _ => fun
  | [d, g1] => { results := [.lit (.bool true)], args := [d], vars := [g1] }
  | _ => none }
def fnExactWildOfRow : OpenClaim := { program := "ytdjhpoogbgknkabdoor", sum := "854bc8d5e6f34ec2881e6d4528590114d431af6e0309dac2c759f0959281ce88", func := "loop.example/g00300/laws.FnExactWildOf", spec := "fnExactWildOf", inPlace := ["internal/bytealg.CountString", "internal/bytealg.IndexByteString", "internal/bytealg.IndexString"], named := ["unicode/utf8.first", "unicode/utf8.acceptRanges", "internal/bytealg.MaxLen", "loop.example/g00300/impl.byteRanges"], apart := false, laid := [("unicode/utf8.acceptRanges", laid_unicode_utf8_acceptRanges), ("loop.example/g00300/impl.byteRanges", laid_loop_example_g00300_impl_byteRanges), ("unicode/utf8.first", laid_unicode_utf8_first)] }
def FnExactWildOfSaid : Prop := fnExactWildOfRow.holds Tryd.pinned (OpenSpec.ofChange fnExactWildOfSpec)

/-- ITS FALSE NEIGHBOUR: 'it returns false'. Refute it at one input. -/
def fnExactWildOfWrong : ChangeSpec := { name := "fnExactWildOf", vars := ["loop.example/g00300/impl.byteRanges"], fn := fun _ => fun
  | [d, g1] => { results := [.lit (.bool false)], args := [d], vars := [g1] }
  | _ => none }
def FnExactWildOfWrongFalsely : Prop := fnExactWildOfRow.holds Tryd.pinned (OpenSpec.ofChange fnExactWildOfWrong)

/-- 'laws.FnExactNameBytes': WHATEVER THE INPUT: true; the input reads as it did. -/
def fnExactNameBytesSpec : ChangeSpec := { name := "fnExactNameBytes", vars := ["loop.example/g00300/impl.byteRanges"], fn := fun _ => fun
  | [d, g1] => { results := [.lit (.bool true)], args := [d], vars := [g1] }
  | _ => none }
def fnExactNameBytesRow : OpenClaim := { program := "ytdjhpoogbgknkabdoor", sum := "854bc8d5e6f34ec2881e6d4528590114d431af6e0309dac2c759f0959281ce88", func := "loop.example/g00300/laws.FnExactNameBytes", spec := "fnExactNameBytes", inPlace := ["internal/bytealg.CountString", "internal/bytealg.IndexByteString", "internal/bytealg.IndexString"], named := ["unicode/utf8.first", "unicode/utf8.acceptRanges", "internal/bytealg.MaxLen", "loop.example/g00300/impl.byteRanges"], apart := false, laid := [("unicode/utf8.acceptRanges", laid_unicode_utf8_acceptRanges), ("loop.example/g00300/impl.byteRanges", laid_loop_example_g00300_impl_byteRanges), ("unicode/utf8.first", laid_unicode_utf8_first)] }
def FnExactNameBytesSaid : Prop := fnExactNameBytesRow.holds Tryd.pinned (OpenSpec.ofChange fnExactNameBytesSpec)

/-- ITS FALSE NEIGHBOUR: 'it returns false'. Refute it at one input. -/
def fnExactNameBytesWrong : ChangeSpec := { name := "fnExactNameBytes", vars := ["loop.example/g00300/impl.byteRanges"], fn := fun _ => fun
  | [d, g1] => { results := [.lit (.bool false)], args := [d], vars := [g1] }
  | _ => none }
def FnExactNameBytesWrongFalsely : Prop := fnExactNameBytesRow.holds Tryd.pinned (OpenSpec.ofChange fnExactNameBytesWrong)

/-- 'laws.FnExactTakeName': WHATEVER THE INPUT: true; the input reads as it did. -/
def fnExactTakeNameSpec : ChangeSpec := { name := "fnExactTakeName", vars := ["loop.example/g00300/impl.byteRanges"], fn := fun _ => fun
  | [d1, d2, g1] => { results := [.lit (.bool true)], args := [d1, d2], vars := [g1] }
  | _ => none }
def fnExactTakeNameRow : OpenClaim := { program := "ytdjhpoogbgknkabdoor", sum := "854bc8d5e6f34ec2881e6d4528590114d431af6e0309dac2c759f0959281ce88", func := "loop.example/g00300/laws.FnExactTakeName", spec := "fnExactTakeName", named := ["loop.example/g00300/impl.byteRanges"], apart := false, laid := [("loop.example/g00300/impl.byteRanges", laid_loop_example_g00300_impl_byteRanges)] }
def FnExactTakeNameSaid : Prop := fnExactTakeNameRow.holds Tryd.pinned (OpenSpec.ofChange fnExactTakeNameSpec)

/-- ITS FALSE NEIGHBOUR: 'it returns false'. Refute it at one input. -/
def fnExactTakeNameWrong : ChangeSpec := { name := "fnExactTakeName", vars := ["loop.example/g00300/impl.byteRanges"], fn := fun _ => fun
  | [d1, d2, g1] => { results := [.lit (.bool false)], args := [d1, d2], vars := [g1] }
  | _ => none }
def FnExactTakeNameWrongFalsely : Prop := fnExactTakeNameRow.holds Tryd.pinned (OpenSpec.ofChange fnExactTakeNameWrong)

/- THE SECOND FORM. 'bulk': how many values and letters a reading holds, each counted each time it is reached (what is shared counts as often as it is met; a slice's spare places count too). A statement '..UptoSaid' is the law's where the arguments, and the package variables that the reading takes, are together of bulk at most 1048576: NARROWER than '..Said'. Prove '..Said' where nothing that the law and all that it calls make is longer than what came in: it says more and counts as full. Else prove '..UptoSaid'. A law counts once. -/
mutual
def uptoBulk {H : Type} : DataW H → Nat
  | .lit (.string bytes) => bytes.length + 1
  | .lit _ => 1
  | .nil => 1
  | .ptr d => uptoBulk d + 1
  | .slice elems spare => uptoBulkAll elems + uptoBulkAll spare + 1
  | .agg parts => uptoBulkAll parts + 1
  | .iface _ d => uptoBulk d + 1
  | .map entries => uptoBulkEntries entries + 1
  | .held _ => 1
def uptoBulkAll {H : Type} : List (DataW H) → Nat
  | [] => 0
  | d :: r => uptoBulk d + uptoBulkAll r
def uptoBulkEntries {H : Type} : List (Lit × DataW H) → Nat
  | [] => 0
  | x :: r => uptoBulkEntry x + uptoBulkEntries r
def uptoBulkEntry {H : Type} : Lit × DataW H → Nat
  | (.string bytes, d) => bytes.length + uptoBulk d + 1
  | (_, d) => uptoBulk d + 1
 end
def uptoSmall : (H : Type) → List (DataW H) → Bool := fun _ ds => decide (uptoBulkAll ds ≤ 1048576)
def OpenSpec.upto (s : _root_.Go.ChangeSpec) : _root_.Go.OpenSpec := { _root_.Go.OpenSpec.ofChange s with cond := some uptoSmall }

/-- 'laws.FnExactSortNames', WHERE WHAT IT READS IS OF BULK AT MOST 1048576: true; the input reads as it did. -/
def fnExactSortNamesUptoRow : OpenClaim := { program := "ytdjhpoogbgknkabdoor", sum := "854bc8d5e6f34ec2881e6d4528590114d431af6e0309dac2c759f0959281ce88", func := "loop.example/g00300/laws.FnExactSortNames", spec := "fnExactSortNames", inPlace := ["internal/bytealg.CountString", "internal/bytealg.IndexByteString", "internal/bytealg.IndexString", "internal/bytealg.abigen_runtime_cmpstring"], unfollowed := true, recurses := true, named := ["unicode/utf8.first", "unicode/utf8.acceptRanges", "internal/bytealg.MaxLen", "loop.example/g00300/impl.byteRanges"], apart := false, laid := [("unicode/utf8.acceptRanges", laid_unicode_utf8_acceptRanges), ("loop.example/g00300/impl.byteRanges", laid_loop_example_g00300_impl_byteRanges), ("unicode/utf8.first", laid_unicode_utf8_first)], narrowed := true }
def FnExactSortNamesUptoSaid : Prop := fnExactSortNamesUptoRow.holds Tryd.pinned (OpenSpec.upto fnExactSortNamesSpec)

/-- 'laws.FnExactFoldName', WHERE WHAT IT READS IS OF BULK AT MOST 1048576: true; the input reads as it did. -/
def fnExactFoldNameUptoRow : OpenClaim := { program := "ytdjhpoogbgknkabdoor", sum := "854bc8d5e6f34ec2881e6d4528590114d431af6e0309dac2c759f0959281ce88", func := "loop.example/g00300/laws.FnExactFoldName", spec := "fnExactFoldName", inPlace := ["internal/bytealg.CountString", "internal/bytealg.IndexByteString", "internal/bytealg.IndexString"], named := ["loop.example/g00300/impl.byteRanges", "unicode/utf8.first", "unicode/utf8.acceptRanges", "internal/bytealg.MaxLen"], apart := false, laid := [("unicode/utf8.acceptRanges", laid_unicode_utf8_acceptRanges), ("loop.example/g00300/impl.byteRanges", laid_loop_example_g00300_impl_byteRanges), ("unicode/utf8.first", laid_unicode_utf8_first)], narrowed := true }
def FnExactFoldNameUptoSaid : Prop := fnExactFoldNameUptoRow.holds Tryd.pinned (OpenSpec.upto fnExactFoldNameSpec)

/-- 'laws.FnExactCommonOf', WHERE WHAT IT READS IS OF BULK AT MOST 1048576: true; the input reads as it did. -/
def fnExactCommonOfUptoRow : OpenClaim := { program := "ytdjhpoogbgknkabdoor", sum := "854bc8d5e6f34ec2881e6d4528590114d431af6e0309dac2c759f0959281ce88", func := "loop.example/g00300/laws.FnExactCommonOf", spec := "fnExactCommonOf", inPlace := ["internal/bytealg.CountString", "internal/bytealg.IndexByteString", "internal/bytealg.IndexString"], named := ["unicode/utf8.first", "unicode/utf8.acceptRanges", "internal/bytealg.MaxLen", "loop.example/g00300/impl.byteRanges"], apart := false, laid := [("unicode/utf8.acceptRanges", laid_unicode_utf8_acceptRanges), ("loop.example/g00300/impl.byteRanges", laid_loop_example_g00300_impl_byteRanges), ("unicode/utf8.first", laid_unicode_utf8_first)], narrowed := true }
def FnExactCommonOfUptoSaid : Prop := fnExactCommonOfUptoRow.holds Tryd.pinned (OpenSpec.upto fnExactCommonOfSpec)

/-- 'laws.FnExactWildOf', WHERE WHAT IT READS IS OF BULK AT MOST 1048576: true; the input reads as it did. -/
def fnExactWildOfUptoRow : OpenClaim := { program := "ytdjhpoogbgknkabdoor", sum := "854bc8d5e6f34ec2881e6d4528590114d431af6e0309dac2c759f0959281ce88", func := "loop.example/g00300/laws.FnExactWildOf", spec := "fnExactWildOf", inPlace := ["internal/bytealg.CountString", "internal/bytealg.IndexByteString", "internal/bytealg.IndexString"], named := ["unicode/utf8.first", "unicode/utf8.acceptRanges", "internal/bytealg.MaxLen", "loop.example/g00300/impl.byteRanges"], apart := false, laid := [("unicode/utf8.acceptRanges", laid_unicode_utf8_acceptRanges), ("loop.example/g00300/impl.byteRanges", laid_loop_example_g00300_impl_byteRanges), ("unicode/utf8.first", laid_unicode_utf8_first)], narrowed := true }
def FnExactWildOfUptoSaid : Prop := fnExactWildOfUptoRow.holds Tryd.pinned (OpenSpec.upto fnExactWildOfSpec)

/-- 'laws.FnExactNameBytes', WHERE WHAT IT READS IS OF BULK AT MOST 1048576: true; the input reads as it did. -/
def fnExactNameBytesUptoRow : OpenClaim := { program := "ytdjhpoogbgknkabdoor", sum := "854bc8d5e6f34ec2881e6d4528590114d431af6e0309dac2c759f0959281ce88", func := "loop.example/g00300/laws.FnExactNameBytes", spec := "fnExactNameBytes", inPlace := ["internal/bytealg.CountString", "internal/bytealg.IndexByteString", "internal/bytealg.IndexString"], named := ["unicode/utf8.first", "unicode/utf8.acceptRanges", "internal/bytealg.MaxLen", "loop.example/g00300/impl.byteRanges"], apart := false, laid := [("unicode/utf8.acceptRanges", laid_unicode_utf8_acceptRanges), ("loop.example/g00300/impl.byteRanges", laid_loop_example_g00300_impl_byteRanges), ("unicode/utf8.first", laid_unicode_utf8_first)], narrowed := true }
def FnExactNameBytesUptoSaid : Prop := fnExactNameBytesUptoRow.holds Tryd.pinned (OpenSpec.upto fnExactNameBytesSpec)

/-- 'laws.FnExactTakeName', WHERE WHAT IT READS IS OF BULK AT MOST 1048576: true; the input reads as it did. -/
def fnExactTakeNameUptoRow : OpenClaim := { program := "ytdjhpoogbgknkabdoor", sum := "854bc8d5e6f34ec2881e6d4528590114d431af6e0309dac2c759f0959281ce88", func := "loop.example/g00300/laws.FnExactTakeName", spec := "fnExactTakeName", named := ["loop.example/g00300/impl.byteRanges"], apart := false, laid := [("loop.example/g00300/impl.byteRanges", laid_loop_example_g00300_impl_byteRanges)], narrowed := true }
def FnExactTakeNameUptoSaid : Prop := fnExactTakeNameUptoRow.holds Tryd.pinned (OpenSpec.upto fnExactTakeNameSpec)

end Rows
end Go.Proofs.YtdjhpoogbgknkabDoor
