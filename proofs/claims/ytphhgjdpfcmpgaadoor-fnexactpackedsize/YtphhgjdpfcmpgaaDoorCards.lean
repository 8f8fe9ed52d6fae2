/-
  DERIVED. GIVEN WITH THE SEED: THE CARDS: each row of YtphhgjdpfcmpgaaDoorRows.lean that lists a variable, with what it lists TIED to the program's text (the seventh form; the later family's looks); each row that meets fmt, with fmt's text TOLD by the authors' own Lean function (tested against real Go, not proved from fmt's source: count such statements apart). THE CARD IS WHAT COUNTS. Prove the row's statement (the work); the ties are given (YtphhgjdpfcmpgaaDoorTie.lean); close each card by the builder's one call (the guide's Derived/Test/ToyasCard.lean, 'card_holds'). Laid BY PROGRAM, IN A SANDBOX (cutbox-door.mjs). By AI agents, Wed Nov 11 2026. No macro, syntax, notation, axiom, sorry.
-/
import Derived.Test.YtphhgjdpfcmpgaaDoorRows
import GoSem.ClaimSeven
namespace Go.Proofs.YtphhgjdpfcmpgaaDoor
namespace Rows

/-- THE TIED CARD OF 'laws.FnExactNameBytes'. -/
def fnExactNameBytesCard : Claim7 := { stood := { row := fnExactNameBytesRow, standIns := [], harness := (true, "28ac818d46736856d688237d50a36369afdc0280cf7e7af1e12ce169a822e6fa"), looks := false }, kinds := [], alts := [], laidByText := true, laidKinds := [.data, .data, .pinned], laidTests := true, laidLooks := .later }
def FnExactNameBytesCardSaid : Prop := Claim7.holds Tryd.pinned (.plain (OpenSpec.ofChange fnExactNameBytesSpec)) fnExactNameBytesCard

/-- THE TIED CARD OF 'laws.FnExactTakeName'. -/
def fnExactTakeNameCard : Claim7 := { stood := { row := fnExactTakeNameRow, standIns := [], harness := (true, "28ac818d46736856d688237d50a36369afdc0280cf7e7af1e12ce169a822e6fa"), looks := false }, kinds := [], alts := [], laidByText := true, laidKinds := [.data], laidTests := true, laidLooks := .later }
def FnExactTakeNameCardSaid : Prop := Claim7.holds Tryd.pinned (.plain (OpenSpec.ofChange fnExactTakeNameSpec)) fnExactTakeNameCard

/-- THE TIED CARD OF 'laws.FnExactPackNames'. -/
def fnExactPackNamesCard : Claim7 := { stood := { row := fnExactPackNamesRow, standIns := [], harness := (true, "28ac818d46736856d688237d50a36369afdc0280cf7e7af1e12ce169a822e6fa"), looks := false }, kinds := [], alts := [], laidByText := true, laidKinds := [.data, .data, .pinned], laidTests := true, laidLooks := .later }
def FnExactPackNamesCardSaid : Prop := Claim7.holds Tryd.pinned (.plain (OpenSpec.ofChange fnExactPackNamesSpec)) fnExactPackNamesCard

/-- THE TIED CARD OF 'laws.FnExactUnpackNames'. -/
def fnExactUnpackNamesCard : Claim7 := { stood := { row := fnExactUnpackNamesRow, standIns := [], harness := (true, "28ac818d46736856d688237d50a36369afdc0280cf7e7af1e12ce169a822e6fa"), looks := false }, kinds := [], alts := [], laidByText := true, laidKinds := [.data], laidTests := true, laidLooks := .later }
def FnExactUnpackNamesCardSaid : Prop := Claim7.holds Tryd.pinned (.plain (OpenSpec.ofChange fnExactUnpackNamesSpec)) fnExactUnpackNamesCard

/-- THE TIED CARD OF 'laws.FnExactPutName'. -/
def fnExactPutNameCard : Claim7 := { stood := { row := fnExactPutNameRow, standIns := [], harness := (true, "28ac818d46736856d688237d50a36369afdc0280cf7e7af1e12ce169a822e6fa"), looks := false }, kinds := [], alts := [], laidByText := true, laidKinds := [.data, .data, .pinned], laidTests := true, laidLooks := .later }
def FnExactPutNameCardSaid : Prop := Claim7.holds Tryd.pinned (.plain (OpenSpec.ofChange fnExactPutNameSpec)) fnExactPutNameCard

/-- THE TIED CARD OF 'laws.FnExactSuffixesOf'. -/
def fnExactSuffixesOfCard : Claim7 := { stood := { row := fnExactSuffixesOfRow, standIns := [], harness := (true, "28ac818d46736856d688237d50a36369afdc0280cf7e7af1e12ce169a822e6fa"), looks := false }, kinds := [], alts := [], laidByText := true, laidKinds := [.data], laidTests := true, laidLooks := .later }
def FnExactSuffixesOfCardSaid : Prop := Claim7.holds Tryd.pinned (.plain (OpenSpec.ofChange fnExactSuffixesOfSpec)) fnExactSuffixesOfCard

/-- THE TIED CARD OF 'laws.FnExactPackedSize'. -/
def fnExactPackedSizeCard : Claim7 := { stood := { row := fnExactPackedSizeRow, standIns := [], harness := (true, "28ac818d46736856d688237d50a36369afdc0280cf7e7af1e12ce169a822e6fa"), looks := false }, kinds := [], alts := [], laidByText := true, laidKinds := [.data, .data, .pinned], laidTests := true, laidLooks := .later }
def FnExactPackedSizeCardSaid : Prop := Claim7.holds Tryd.pinned (.plain (OpenSpec.ofChange fnExactPackedSizeSpec)) fnExactPackedSizeCard

/-- THE SECOND FORM's CARD OF 'laws.FnExactNameBytes'. -/
def fnExactNameBytesUptoCard : Claim7 := { stood := { row := fnExactNameBytesUptoRow, standIns := [], harness := (true, "28ac818d46736856d688237d50a36369afdc0280cf7e7af1e12ce169a822e6fa"), looks := false }, kinds := [], alts := [], laidByText := true, laidKinds := [.data, .data, .pinned], laidTests := true, laidLooks := .later }
def FnExactNameBytesUptoCardSaid : Prop := Claim7.holds Tryd.pinned (.plain (OpenSpec.upto fnExactNameBytesSpec)) fnExactNameBytesUptoCard

/-- THE SECOND FORM's CARD OF 'laws.FnExactTakeName'. -/
def fnExactTakeNameUptoCard : Claim7 := { stood := { row := fnExactTakeNameUptoRow, standIns := [], harness := (true, "28ac818d46736856d688237d50a36369afdc0280cf7e7af1e12ce169a822e6fa"), looks := false }, kinds := [], alts := [], laidByText := true, laidKinds := [.data], laidTests := true, laidLooks := .later }
def FnExactTakeNameUptoCardSaid : Prop := Claim7.holds Tryd.pinned (.plain (OpenSpec.upto fnExactTakeNameSpec)) fnExactTakeNameUptoCard

/-- THE SECOND FORM's CARD OF 'laws.FnExactPackNames'. -/
def fnExactPackNamesUptoCard : Claim7 := { stood := { row := fnExactPackNamesUptoRow, standIns := [], harness := (true, "28ac818d46736856d688237d50a36369afdc0280cf7e7af1e12ce169a822e6fa"), looks := false }, kinds := [], alts := [], laidByText := true, laidKinds := [.data, .data, .pinned], laidTests := true, laidLooks := .later }
def FnExactPackNamesUptoCardSaid : Prop := Claim7.holds Tryd.pinned (.plain (OpenSpec.upto fnExactPackNamesSpec)) fnExactPackNamesUptoCard

/-- THE SECOND FORM's CARD OF 'laws.FnExactUnpackNames'. -/
def fnExactUnpackNamesUptoCard : Claim7 := { stood := { row := fnExactUnpackNamesUptoRow, standIns := [], harness := (true, "28ac818d46736856d688237d50a36369afdc0280cf7e7af1e12ce169a822e6fa"), looks := false }, kinds := [], alts := [], laidByText := true, laidKinds := [.data], laidTests := true, laidLooks := .later }
def FnExactUnpackNamesUptoCardSaid : Prop := Claim7.holds Tryd.pinned (.plain (OpenSpec.upto fnExactUnpackNamesSpec)) fnExactUnpackNamesUptoCard

/-- THE SECOND FORM's CARD OF 'laws.FnExactPutName'. -/
def fnExactPutNameUptoCard : Claim7 := { stood := { row := fnExactPutNameUptoRow, standIns := [], harness := (true, "28ac818d46736856d688237d50a36369afdc0280cf7e7af1e12ce169a822e6fa"), looks := false }, kinds := [], alts := [], laidByText := true, laidKinds := [.data, .data, .pinned], laidTests := true, laidLooks := .later }
def FnExactPutNameUptoCardSaid : Prop := Claim7.holds Tryd.pinned (.plain (OpenSpec.upto fnExactPutNameSpec)) fnExactPutNameUptoCard

/-- THE SECOND FORM's CARD OF 'laws.FnExactSuffixesOf'. -/
def fnExactSuffixesOfUptoCard : Claim7 := { stood := { row := fnExactSuffixesOfUptoRow, standIns := [], harness := (true, "28ac818d46736856d688237d50a36369afdc0280cf7e7af1e12ce169a822e6fa"), looks := false }, kinds := [], alts := [], laidByText := true, laidKinds := [.data], laidTests := true, laidLooks := .later }
def FnExactSuffixesOfUptoCardSaid : Prop := Claim7.holds Tryd.pinned (.plain (OpenSpec.upto fnExactSuffixesOfSpec)) fnExactSuffixesOfUptoCard

/-- THE SECOND FORM's CARD OF 'laws.FnExactPackedSize'. -/
def fnExactPackedSizeUptoCard : Claim7 := { stood := { row := fnExactPackedSizeUptoRow, standIns := [], harness := (true, "28ac818d46736856d688237d50a36369afdc0280cf7e7af1e12ce169a822e6fa"), looks := false }, kinds := [], alts := [], laidByText := true, laidKinds := [.data, .data, .pinned], laidTests := true, laidLooks := .later }
def FnExactPackedSizeUptoCardSaid : Prop := Claim7.holds Tryd.pinned (.plain (OpenSpec.upto fnExactPackedSizeSpec)) fnExactPackedSizeUptoCard
end Rows
end Go.Proofs.YtphhgjdpfcmpgaaDoor
