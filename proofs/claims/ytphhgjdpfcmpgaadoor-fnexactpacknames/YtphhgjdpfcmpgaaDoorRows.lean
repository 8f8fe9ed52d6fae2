/-
  NARROWER THAN 'FOR EVERY INPUT', by the rows' own cells (each row's printed sentence says how): FnExactNameBytes: laid · FnExactTakeName: laid · FnExactPackNames: laid · FnExactUnpackNames: laid · FnExactPutName: laid · FnExactSuffixesOf: laid · FnExactPackedSize: laid.
  DERIVED. THE GIVEN ROWS OF THIS SEAT. 7 by the template 'for every input the law returns true; each argument reads behind the call as it read before'; 0 by the template 'total and deterministic' (their statements: YtphhgjdpfcmpgaaDoorTotals.lean).
  GIVEN WITH THE SEED: the statements are not yours to turn. If you find one false, say at which input.
  Laid BY PROGRAM, IN A SANDBOX (cutbox-rows.mjs): the forced cells as the released guide's own fill.sh prints them over the translation ef23cd2f5c0e16f3… (all of the seat's roots in one cut). By AI agents, Wed Nov 11 2026. No macro, syntax, notation, axiom, sorry.
-/
import Derived.Test.YtphhgjdpfcmpgaaDoorChecked
import GoSem.PinnedTables
import GoSem.Claim
import GoSem.ClaimJoined
import GoSem.ClaimMapViews
import Derived.JoinedTies
import Derived.KernelRfl
namespace Go.Proofs.YtphhgjdpfcmpgaaDoor
/- THE CELL 'sum', in the pinned program and in every row, IS THE sha256 OF THE DUMP (.gsa) THAT YtphhgjdpfcmpgaaDoorProg.lean LOADS. Nothing in Lean hashes anything: it is a label: what it is worth is what the hold of that sum in a sandbox is worth. -/
noncomputable def Tryd.pinned : Pinned := { name := "ytphhgjdpfcmpgaadoor", sum := "ef23cd2f5c0e16f317d790a6552b49c033f6b45ee13be6073dd68c50f470fcf9", checked := Tryd.checked }
namespace Rows
def none {H : Type} : Left H := { results := [], args := [] }

/- WHAT THE LISTED PACKAGE-LEVEL VARIABLES READ AS WHEN THE CALL BEGINS. Each datum BY PROGRAM (the guide's laid-datum.mjs) off the statement by which the dump's own 'gosem.cut.vars' lays the variable. In a bare row this is a premise. The card (YtphhgjdpfcmpgaaDoorCards.lean) ties it to the program's text. -/
def laid_unicode_utf8_acceptRanges {H : Type} : DataW H := .agg [.agg [.lit (.int .u8 128), .lit (.int .u8 191)], .agg [.lit (.int .u8 160), .lit (.int .u8 191)], .agg [.lit (.int .u8 128), .lit (.int .u8 159)], .agg [.lit (.int .u8 144), .lit (.int .u8 191)], .agg [.lit (.int .u8 128), .lit (.int .u8 143)], .agg [.lit (.int .u8 0), .lit (.int .u8 0)], .agg [.lit (.int .u8 0), .lit (.int .u8 0)], .agg [.lit (.int .u8 0), .lit (.int .u8 0)], .agg [.lit (.int .u8 0), .lit (.int .u8 0)], .agg [.lit (.int .u8 0), .lit (.int .u8 0)], .agg [.lit (.int .u8 0), .lit (.int .u8 0)], .agg [.lit (.int .u8 0), .lit (.int .u8 0)], .agg [.lit (.int .u8 0), .lit (.int .u8 0)], .agg [.lit (.int .u8 0), .lit (.int .u8 0)], .agg [.lit (.int .u8 0), .lit (.int .u8 0)], .agg [.lit (.int .u8 0), .lit (.int .u8 0)]]
def laid_loop_example_g00300_impl_byteRanges {H : Type} : DataW H := .agg [.agg [.lit (.int .u8 45), .lit (.int .u8 45), .lit (.int .i64 1)], .agg [.lit (.int .u8 48), .lit (.int .u8 57), .lit (.int .i64 1)], .agg [.lit (.int .u8 65), .lit (.int .u8 90), .lit (.int .i64 2)], .agg [.lit (.int .u8 95), .lit (.int .u8 95), .lit (.int .i64 1)], .agg [.lit (.int .u8 97), .lit (.int .u8 122), .lit (.int .i64 1)]]
/-- One of Go's own tables, pinned by name: the form's constant. -/
def laid_unicode_utf8_first : DataW Unit := Go.Pinned.utf8First

/-- 'laws.FnExactNameBytes': WHATEVER THE INPUT: true; the input reads as it did. -/
def fnExactNameBytesSpec : ChangeSpec := { name := "fnExactNameBytes", vars := ["loop.example/g00300/impl.byteRanges"], fn := fun _ => fun
  | [d, g1] => { results := [.lit (.bool true)], args := [d], vars := [g1] }
  | _ => none }
def fnExactNameBytesRow : OpenClaim := { program := "ytphhgjdpfcmpgaadoor", sum := "ef23cd2f5c0e16f317d790a6552b49c033f6b45ee13be6073dd68c50f470fcf9", func := "loop.example/g00300/laws.FnExactNameBytes", spec := "fnExactNameBytes", inPlace := ["internal/bytealg.CountString", "internal/bytealg.IndexByteString", "internal/bytealg.IndexString"], named := ["unicode/utf8.first", "unicode/utf8.acceptRanges", "internal/bytealg.MaxLen", "loop.example/g00300/impl.byteRanges"], apart := false, laid := [("unicode/utf8.acceptRanges", laid_unicode_utf8_acceptRanges), ("loop.example/g00300/impl.byteRanges", laid_loop_example_g00300_impl_byteRanges), ("unicode/utf8.first", laid_unicode_utf8_first)] }
def FnExactNameBytesSaid : Prop := fnExactNameBytesRow.holds Tryd.pinned (OpenSpec.ofChange fnExactNameBytesSpec)

/-- ITS FALSE NEIGHBOUR: 'it returns false'. Refute it at one input. -/
def fnExactNameBytesWrong : ChangeSpec := { name := "fnExactNameBytes", vars := ["loop.example/g00300/impl.byteRanges"], fn := fun _ => fun
  | [d, g1] => { results := [.lit (.bool false)], args := [d], vars := [g1] }
  | _ => none }
def FnExactNameBytesWrongFalsely : Prop := fnExactNameBytesRow.holds Tryd.pinned (OpenSpec.ofChange fnExactNameBytesWrong)

/-- 'laws.FnExactTakeName': WHATEVER THE INPUT: true; the input reads as it did. -/
def fnExactTakeNameSpec : ChangeSpec := { name := "fnExactTakeName", vars := ["loop.example/g00300/impl.byteRanges"], fn := fun _ => fun
  | [d1, d2, g1] => { results := [.lit (.bool true)], args := [d1, d2], vars := [g1] }
  | _ => none }
def fnExactTakeNameRow : OpenClaim := { program := "ytphhgjdpfcmpgaadoor", sum := "ef23cd2f5c0e16f317d790a6552b49c033f6b45ee13be6073dd68c50f470fcf9", func := "loop.example/g00300/laws.FnExactTakeName", spec := "fnExactTakeName", named := ["loop.example/g00300/impl.byteRanges"], apart := false, laid := [("loop.example/g00300/impl.byteRanges", laid_loop_example_g00300_impl_byteRanges)] }
def FnExactTakeNameSaid : Prop := fnExactTakeNameRow.holds Tryd.pinned (OpenSpec.ofChange fnExactTakeNameSpec)

/-- ITS FALSE NEIGHBOUR: 'it returns false'. Refute it at one input. -/
def fnExactTakeNameWrong : ChangeSpec := { name := "fnExactTakeName", vars := ["loop.example/g00300/impl.byteRanges"], fn := fun _ => fun
  | [d1, d2, g1] => { results := [.lit (.bool false)], args := [d1, d2], vars := [g1] }
  | _ => none }
def FnExactTakeNameWrongFalsely : Prop := fnExactTakeNameRow.holds Tryd.pinned (OpenSpec.ofChange fnExactTakeNameWrong)

/-- 'laws.FnExactPackNames': WHATEVER THE INPUT: true; the input reads as it did. -/
def fnExactPackNamesSpec : ChangeSpec := { name := "fnExactPackNames", vars := ["loop.example/g00300/impl.byteRanges"], fn := fun _ => fun
  | [d, g1] => { results := [.lit (.bool true)], args := [d], vars := [g1] }
  | _ => none }
def fnExactPackNamesRow : OpenClaim := { program := "ytphhgjdpfcmpgaadoor", sum := "ef23cd2f5c0e16f317d790a6552b49c033f6b45ee13be6073dd68c50f470fcf9", func := "loop.example/g00300/laws.FnExactPackNames", spec := "fnExactPackNames", inPlace := ["internal/bytealg.CountString", "internal/bytealg.IndexByteString", "internal/bytealg.IndexString"], named := ["unicode/utf8.first", "unicode/utf8.acceptRanges", "internal/bytealg.MaxLen", "loop.example/g00300/impl.byteRanges"], apart := false, laid := [("unicode/utf8.acceptRanges", laid_unicode_utf8_acceptRanges), ("loop.example/g00300/impl.byteRanges", laid_loop_example_g00300_impl_byteRanges), ("unicode/utf8.first", laid_unicode_utf8_first)] }
def FnExactPackNamesSaid : Prop := fnExactPackNamesRow.holds Tryd.pinned (OpenSpec.ofChange fnExactPackNamesSpec)

/-- ITS FALSE NEIGHBOUR: 'it returns false'. Refute it at one input. -/
def fnExactPackNamesWrong : ChangeSpec := { name := "fnExactPackNames", vars := ["loop.example/g00300/impl.byteRanges"], fn := fun _ => fun
  | [d, g1] => { results := [.lit (.bool false)], args := [d], vars := [g1] }
  | _ => none }
def FnExactPackNamesWrongFalsely : Prop := fnExactPackNamesRow.holds Tryd.pinned (OpenSpec.ofChange fnExactPackNamesWrong)

/-- 'laws.FnExactUnpackNames': WHATEVER THE INPUT: true; the input reads as it did. -/
def fnExactUnpackNamesSpec : ChangeSpec := { name := "fnExactUnpackNames", vars := ["loop.example/g00300/impl.byteRanges"], fn := fun _ => fun
  | [d1, d2, g1] => { results := [.lit (.bool true)], args := [d1, d2], vars := [g1] }
  | _ => none }
def fnExactUnpackNamesRow : OpenClaim := { program := "ytphhgjdpfcmpgaadoor", sum := "ef23cd2f5c0e16f317d790a6552b49c033f6b45ee13be6073dd68c50f470fcf9", func := "loop.example/g00300/laws.FnExactUnpackNames", spec := "fnExactUnpackNames", named := ["loop.example/g00300/impl.byteRanges"], apart := false, laid := [("loop.example/g00300/impl.byteRanges", laid_loop_example_g00300_impl_byteRanges)] }
def FnExactUnpackNamesSaid : Prop := fnExactUnpackNamesRow.holds Tryd.pinned (OpenSpec.ofChange fnExactUnpackNamesSpec)

/-- ITS FALSE NEIGHBOUR: 'it returns false'. Refute it at one input. -/
def fnExactUnpackNamesWrong : ChangeSpec := { name := "fnExactUnpackNames", vars := ["loop.example/g00300/impl.byteRanges"], fn := fun _ => fun
  | [d1, d2, g1] => { results := [.lit (.bool false)], args := [d1, d2], vars := [g1] }
  | _ => none }
def FnExactUnpackNamesWrongFalsely : Prop := fnExactUnpackNamesRow.holds Tryd.pinned (OpenSpec.ofChange fnExactUnpackNamesWrong)

/-- 'laws.FnExactPutName': WHATEVER THE INPUT: true; the input reads as it did. -/
def fnExactPutNameSpec : ChangeSpec := { name := "fnExactPutName", vars := ["loop.example/g00300/impl.byteRanges"], fn := fun _ => fun
  | [d1, d2, g1] => { results := [.lit (.bool true)], args := [d1, d2], vars := [g1] }
  | _ => none }
def fnExactPutNameRow : OpenClaim := { program := "ytphhgjdpfcmpgaadoor", sum := "ef23cd2f5c0e16f317d790a6552b49c033f6b45ee13be6073dd68c50f470fcf9", func := "loop.example/g00300/laws.FnExactPutName", spec := "fnExactPutName", inPlace := ["internal/bytealg.CountString", "internal/bytealg.IndexByteString", "internal/bytealg.IndexString"], named := ["unicode/utf8.first", "unicode/utf8.acceptRanges", "internal/bytealg.MaxLen", "loop.example/g00300/impl.byteRanges"], apart := false, laid := [("unicode/utf8.acceptRanges", laid_unicode_utf8_acceptRanges), ("loop.example/g00300/impl.byteRanges", laid_loop_example_g00300_impl_byteRanges), ("unicode/utf8.first", laid_unicode_utf8_first)] }
def FnExactPutNameSaid : Prop := fnExactPutNameRow.holds Tryd.pinned (OpenSpec.ofChange fnExactPutNameSpec)

/-- ITS FALSE NEIGHBOUR: 'it returns false'. Refute it at one input. -/
def fnExactPutNameWrong : ChangeSpec := { name := "fnExactPutName", vars := ["loop.example/g00300/impl.byteRanges"], fn := fun _ => fun
  | [d1, d2, g1] => { results := [.lit (.bool false)], args := [d1, d2], vars := [g1] }
  | _ => none }
def FnExactPutNameWrongFalsely : Prop := fnExactPutNameRow.holds Tryd.pinned (OpenSpec.ofChange fnExactPutNameWrong)

/-- 'laws.FnExactSuffixesOf': WHATEVER THE INPUT: true; the input reads as it did. -/
def fnExactSuffixesOfSpec : ChangeSpec := { name := "fnExactSuffixesOf", vars := ["loop.example/g00300/impl.byteRanges"], fn := fun _ => fun
  | [d, g1] => { results := [.lit (.bool true)], args := [d], vars := [g1] }
  | _ => none }
def fnExactSuffixesOfRow : OpenClaim := { program := "ytphhgjdpfcmpgaadoor", sum := "ef23cd2f5c0e16f317d790a6552b49c033f6b45ee13be6073dd68c50f470fcf9", func := "loop.example/g00300/laws.FnExactSuffixesOf", spec := "fnExactSuffixesOf", named := ["loop.example/g00300/impl.byteRanges"], apart := false, laid := [("loop.example/g00300/impl.byteRanges", laid_loop_example_g00300_impl_byteRanges)] }
def FnExactSuffixesOfSaid : Prop := fnExactSuffixesOfRow.holds Tryd.pinned (OpenSpec.ofChange fnExactSuffixesOfSpec)

/-- ITS FALSE NEIGHBOUR: 'it returns false'. Refute it at one input. -/
def fnExactSuffixesOfWrong : ChangeSpec := { name := "fnExactSuffixesOf", vars := ["loop.example/g00300/impl.byteRanges"], fn := fun _ => fun
  | [d, g1] => { results := [.lit (.bool false)], args := [d], vars := [g1] }
  | _ => none }
def FnExactSuffixesOfWrongFalsely : Prop := fnExactSuffixesOfRow.holds Tryd.pinned (OpenSpec.ofChange fnExactSuffixesOfWrong)

/-- 'laws.FnExactPackedSize': WHATEVER THE INPUT: true; the input reads as it did. -/
def fnExactPackedSizeSpec : ChangeSpec := { name := "fnExactPackedSize", vars := ["loop.example/g00300/impl.byteRanges"], fn := fun _ => fun
  | [d, g1] => { results := [.lit (.bool true)], args := [d], vars := [g1] }
  | _ => none }
def fnExactPackedSizeRow : OpenClaim := { program := "ytphhgjdpfcmpgaadoor", sum := "ef23cd2f5c0e16f317d790a6552b49c033f6b45ee13be6073dd68c50f470fcf9", func := "loop.example/g00300/laws.FnExactPackedSize", spec := "fnExactPackedSize", inPlace := ["internal/bytealg.CountString", "internal/bytealg.IndexByteString", "internal/bytealg.IndexString"], named := ["unicode/utf8.first", "unicode/utf8.acceptRanges", "internal/bytealg.MaxLen", "loop.example/g00300/impl.byteRanges"], apart := false, laid := [("unicode/utf8.acceptRanges", laid_unicode_utf8_acceptRanges), ("loop.example/g00300/impl.byteRanges", laid_loop_example_g00300_impl_byteRanges), ("unicode/utf8.first", laid_unicode_utf8_first)] }
def FnExactPackedSizeSaid : Prop := fnExactPackedSizeRow.holds Tryd.pinned (OpenSpec.ofChange fnExactPackedSizeSpec)

/-- ITS FALSE NEIGHBOUR: 'it returns false'. Refute it at one input. -/
def fnExactPackedSizeWrong : ChangeSpec := { name := "fnExactPackedSize", vars := ["loop.example/g00300/impl.byteRanges"], fn := fun _ => fun
  | [d, g1] => { results := [.lit (.bool false)], args := [d], vars := [g1] }
  | _ => none }
def FnExactPackedSizeWrongFalsely : Prop := fnExactPackedSizeRow.holds Tryd.pinned (OpenSpec.ofChange fnExactPackedSizeWrong)

/- THE SECOND FORM. 'bulk': how many values and letters a reading holds, each counted each time it is reached (what is shared counts as often as it is met; a slice's spare places count too). A statement '..UptoSaid' is the law's where the arguments, and the package variables that the reading takes, are together of bulk at most 1048576: NARROWER than '..Said'. Prove '..Said' where nothing that the law and all that it calls make is longer than what came in: it says more and counts as full. Else prove '..UptoSaid'. A law counts once. -/
mutual
def uptoBulk {H : Type} : DataW H → Nat
  | .lit (.string bytes) => bytes.length + 1
  | .lit _ => 1
  | .nil => 1
  | .ptr d => uptoBulk d + 1
  | .slice elems spare => uptoBulkAll elems + uptoBulkAll spare + 1
  | .agg parts => uptoBulkAll parts + 1
  | .iface _ d => uptoBulk d + 1
  | .map entries => uptoBulkEntries entries + 1
  | .held _ => 1
def uptoBulkAll {H : Type} : List (DataW H) → Nat
  | [] => 0
  | d :: r => uptoBulk d + uptoBulkAll r
def uptoBulkEntries {H : Type} : List (Lit × DataW H) → Nat
  | [] => 0
  | x :: r => uptoBulkEntry x + uptoBulkEntries r
def uptoBulkEntry {H : Type} : Lit × DataW H → Nat
  | (.string bytes, d) => bytes.length + uptoBulk d + 1
  | (_, d) => uptoBulk d + 1
 end
def uptoSmall : (H : Type) → List (DataW H) → Bool := fun _ ds => decide (uptoBulkAll ds ≤ 1048576)
def OpenSpec.upto (s : _root_.Go.ChangeSpec) : _root_.Go.OpenSpec := { _root_.Go.OpenSpec.ofChange s with cond := some uptoSmall }

/-- 'laws.FnExactNameBytes', WHERE WHAT IT READS IS OF BULK AT MOST 1048576: true; the input reads as it did. -/
def fnExactNameBytesUptoRow : OpenClaim := { program := "ytphhgjdpfcmpgaadoor", sum := "ef23cd2f5c0e16f317d790a6552b49c033f6b45ee13be6073dd68c50f470fcf9", func := "loop.example/g00300/laws.FnExactNameBytes", spec := "fnExactNameBytes", inPlace := ["internal/bytealg.CountString", "internal/bytealg.IndexByteString", "internal/bytealg.IndexString"], named := ["unicode/utf8.first", "unicode/utf8.acceptRanges", "internal/bytealg.MaxLen", "loop.example/g00300/impl.byteRanges"], apart := false, laid := [("unicode/utf8.acceptRanges", laid_unicode_utf8_acceptRanges), ("loop.example/g00300/impl.byteRanges", laid_loop_example_g00300_impl_byteRanges), ("unicode/utf8.first", laid_unicode_utf8_first)], narrowed := true }
def FnExactNameBytesUptoSaid : Prop := fnExactNameBytesUptoRow.holds Tryd.pinned (OpenSpec.upto fnExactNameBytesSpec)

/-- 'laws.FnExactTakeName', WHERE WHAT IT READS IS OF BULK AT MOST 1048576: true; the input reads as it did. -/
def fnExactTakeNameUptoRow : OpenClaim := { program := "ytphhgjdpfcmpgaadoor", sum := "ef23cd2f5c0e16f317d790a6552b49c033f6b45ee13be6073dd68c50f470fcf9", func := "loop.example/g00300/laws.FnExactTakeName", spec := "fnExactTakeName", named := ["loop.example/g00300/impl.byteRanges"], apart := false, laid := [("loop.example/g00300/impl.byteRanges", laid_loop_example_g00300_impl_byteRanges)], narrowed := true }
def FnExactTakeNameUptoSaid : Prop := fnExactTakeNameUptoRow.holds Tryd.pinned (OpenSpec.upto fnExactTakeNameSpec)

/-- 'laws.FnExactPackNames', WHERE WHAT IT READS IS OF BULK AT MOST 1048576: true; the input reads as it did. -/
def fnExactPackNamesUptoRow : OpenClaim := { program := "ytphhgjdpfcmpgaadoor", sum := "ef23cd2f5c0e16f317d790a6552b49c033f6b45ee13be6073dd68c50f470fcf9", func := "loop.example/g00300/laws.FnExactPackNames", spec := "fnExactPackNames", inPlace := ["internal/bytealg.CountString", "internal/bytealg.IndexByteString", "internal/bytealg.IndexString"], named := ["unicode/utf8.first", "unicode/utf8.acceptRanges", "internal/bytealg.MaxLen", "loop.example/g00300/impl.byteRanges"], apart := false, laid := [("unicode/utf8.acceptRanges", laid_unicode_utf8_acceptRanges), ("loop.example/g00300/impl.byteRanges", laid_loop_example_g00300_impl_byteRanges), ("unicode/utf8.first", laid_unicode_utf8_first)], narrowed := true }
def FnExactPackNamesUptoSaid : Prop := fnExactPackNamesUptoRow.holds Tryd.pinned (OpenSpec.upto fnExactPackNamesSpec)

/-- 'laws.FnExactUnpackNames', WHERE WHAT IT READS IS OF BULK AT MOST 1048576: true; the input reads as it did. -/
def fnExactUnpackNamesUptoRow : OpenClaim := { program := "ytphhgjdpfcmpgaadoor", sum := "ef23cd2f5c0e16f317d790a6552b49c033f6b45ee13be6073dd68c50f470fcf9", func := "loop.example/g00300/laws.FnExactUnpackNames", spec := "fnExactUnpackNames", named := ["loop.example/g00300/impl.byteRanges"], apart := false, laid := [("loop.example/g00300/impl.byteRanges", laid_loop_example_g00300_impl_byteRanges)], narrowed := true }
def FnExactUnpackNamesUptoSaid : Prop := fnExactUnpackNamesUptoRow.holds Tryd.pinned (OpenSpec.upto fnExactUnpackNamesSpec)

/-- 'laws.FnExactPutName', WHERE WHAT IT READS IS OF BULK AT MOST 1048576: true; the input reads as it did. -/
def fnExactPutNameUptoRow : OpenClaim := { program := "ytphhgjdpfcmpgaadoor", sum := "ef23cd2f5c0e16f317d790a6552b49c033f6b45ee13be6073dd68c50f470fcf9", func := "loop.example/g00300/laws.FnExactPutName", spec := "fnExactPutName", inPlace := ["internal/bytealg.CountString", "internal/bytealg.IndexByteString", "internal/bytealg.IndexString"], named := ["unicode/utf8.first", "unicode/utf8.acceptRanges", "internal/bytealg.MaxLen", "loop.example/g00300/impl.byteRanges"], apart := false, laid := [("unicode/utf8.acceptRanges", laid_unicode_utf8_acceptRanges), ("loop.example/g00300/impl.byteRanges", laid_loop_example_g00300_impl_byteRanges), ("unicode/utf8.first", laid_unicode_utf8_first)], narrowed := true }
def FnExactPutNameUptoSaid : Prop := fnExactPutNameUptoRow.holds Tryd.pinned (OpenSpec.upto fnExactPutNameSpec)

/-- 'laws.FnExactSuffixesOf', WHERE WHAT IT READS IS OF BULK AT MOST 1048576: true; the input reads as it did. -/
def fnExactSuffixesOfUptoRow : OpenClaim := { program := "ytphhgjdpfcmpgaadoor", sum := "ef23cd2f5c0e16f317d790a6552b49c033f6b45ee13be6073dd68c50f470fcf9", func := "loop.example/g00300/laws.FnExactSuffixesOf", spec := "fnExactSuffixesOf", named := ["loop.example/g00300/impl.byteRanges"], apart := false, laid := [("loop.example/g00300/impl.byteRanges", laid_loop_example_g00300_impl_byteRanges)], narrowed := true }
def FnExactSuffixesOfUptoSaid : Prop := fnExactSuffixesOfUptoRow.holds Tryd.pinned (OpenSpec.upto fnExactSuffixesOfSpec)

/-- 'laws.FnExactPackedSize', WHERE WHAT IT READS IS OF BULK AT MOST 1048576: true; the input reads as it did. -/
def fnExactPackedSizeUptoRow : OpenClaim := { program := "ytphhgjdpfcmpgaadoor", sum := "ef23cd2f5c0e16f317d790a6552b49c033f6b45ee13be6073dd68c50f470fcf9", func := "loop.example/g00300/laws.FnExactPackedSize", spec := "fnExactPackedSize", inPlace := ["internal/bytealg.CountString", "internal/bytealg.IndexByteString", "internal/bytealg.IndexString"], named := ["unicode/utf8.first", "unicode/utf8.acceptRanges", "internal/bytealg.MaxLen", "loop.example/g00300/impl.byteRanges"], apart := false, laid := [("unicode/utf8.acceptRanges", laid_unicode_utf8_acceptRanges), ("loop.example/g00300/impl.byteRanges", laid_loop_example_g00300_impl_byteRanges), ("unicode/utf8.first", laid_unicode_utf8_first)], narrowed := true }
def FnExactPackedSizeUptoSaid : Prop := fnExactPackedSizeUptoRow.holds Tryd.pinned (OpenSpec.upto fnExactPackedSizeSpec)

end Rows
end Go.Proofs.YtphhgjdpfcmpgaaDoor
