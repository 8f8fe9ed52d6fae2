/-
  DERIVED. GIVEN WITH THE SEED: THE CARDS: each row of YtpghpeombednkaaGreatDoorRows.lean that lists a variable, with what it lists TIED to the program's text (the seventh form; the later family's looks); each row that meets fmt, with fmt's text TOLD by the authors' own Lean function (tested against real Go, not proved from fmt's source: count such statements apart). THE CARD IS WHAT COUNTS. Prove the row's statement (the work); the ties are given (YtpghpeombednkaaGreatDoorTie.lean); close each card by the builder's one call (the guide's Derived/Test/ToyasCard.lean, 'card_holds'). Laid BY PROGRAM, IN A SANDBOX (cutbox-door.mjs). By AI agents, Wed Nov 11 2026. No macro, syntax, notation, axiom, sorry.
-/
import Derived.Test.YtpghpeombednkaaGreatDoorRows
import GoSem.ClaimSeven
namespace Go.Proofs.YtpghpeombednkaaGreatDoor
namespace Rows

/-- THE TIED CARD OF 'laws.FnCutTo'. -/
def fnCutToCard : Claim7 := { stood := { row := fnCutToRow, standIns := [], harness := (true, "9e0cace32d288aa376e31f51007870323f90d0cb2b0dba05eb6d71eedf1cfd7e"), looks := true }, kinds := [], alts := [], laidByText := true, laidKinds := [.data, .data, .data, .data, .sentinel, .sentinel, .data, .pinned], laidTests := true, laidLooks := .later }
def FnCutToCardSaid : Prop := Claim7.holds Tryz.pinned (.plain (OpenSpec.ofChange fnCutToSpec)) fnCutToCard

/-- THE TIED CARD OF 'laws.FnExactReadData'. -/
def fnExactReadDataCard : Claim7 := { stood := { row := fnExactReadDataRow, standIns := [], harness := (true, "9e0cace32d288aa376e31f51007870323f90d0cb2b0dba05eb6d71eedf1cfd7e"), looks := true }, kinds := [], alts := [], laidByText := true, laidKinds := [.data, .data, .data, .data, .sentinel, .sentinel, .data, .pinned], laidTests := true, laidLooks := .later }
def FnExactReadDataCardSaid : Prop := Claim7.holds Tryz.pinned (.plain (OpenSpec.ofChange fnExactReadDataSpec)) fnExactReadDataCard

/-- THE TIED CARD OF 'laws.FnExactCompareRecords'. -/
def fnExactCompareRecordsCard : Claim7 := { stood := { row := fnExactCompareRecordsRow, standIns := [], harness := (true, "9e0cace32d288aa376e31f51007870323f90d0cb2b0dba05eb6d71eedf1cfd7e"), looks := true }, kinds := [], alts := [], laidByText := true, laidKinds := [.data, .data, .data, .data, .sentinel, .sentinel, .data, .pinned], laidTests := true, laidLooks := .later }
def FnExactCompareRecordsCardSaid : Prop := Claim7.holds Tryz.pinned (.plain (OpenSpec.ofChange fnExactCompareRecordsSpec)) fnExactCompareRecordsCard

/-- THE TIED CARD OF 'laws.FnExactCutMessage'. -/
def fnExactCutMessageCard : Claim7 := { stood := { row := fnExactCutMessageRow, standIns := [], harness := (true, "9e0cace32d288aa376e31f51007870323f90d0cb2b0dba05eb6d71eedf1cfd7e"), looks := true }, kinds := [], alts := [], laidByText := true, laidKinds := [.data, .data, .data, .data, .sentinel, .sentinel, .data, .pinned], laidTests := true, laidLooks := .later }
def FnExactCutMessageCardSaid : Prop := Claim7.holds Tryz.pinned (.plain (OpenSpec.ofChange fnExactCutMessageSpec)) fnExactCutMessageCard

/-- THE SECOND FORM's CARD OF 'laws.FnCutTo'. -/
def fnCutToUptoCard : Claim7 := { stood := { row := fnCutToUptoRow, standIns := [], harness := (true, "9e0cace32d288aa376e31f51007870323f90d0cb2b0dba05eb6d71eedf1cfd7e"), looks := true }, kinds := [], alts := [], laidByText := true, laidKinds := [.data, .data, .data, .data, .sentinel, .sentinel, .data, .pinned], laidTests := true, laidLooks := .later }
def FnCutToUptoCardSaid : Prop := Claim7.holds Tryz.pinned (.plain (OpenSpec.upto fnCutToSpec)) fnCutToUptoCard

/-- THE SECOND FORM's CARD OF 'laws.FnExactReadData'. -/
def fnExactReadDataUptoCard : Claim7 := { stood := { row := fnExactReadDataUptoRow, standIns := [], harness := (true, "9e0cace32d288aa376e31f51007870323f90d0cb2b0dba05eb6d71eedf1cfd7e"), looks := true }, kinds := [], alts := [], laidByText := true, laidKinds := [.data, .data, .data, .data, .sentinel, .sentinel, .data, .pinned], laidTests := true, laidLooks := .later }
def FnExactReadDataUptoCardSaid : Prop := Claim7.holds Tryz.pinned (.plain (OpenSpec.upto fnExactReadDataSpec)) fnExactReadDataUptoCard

/-- THE SECOND FORM's CARD OF 'laws.FnExactCompareRecords'. -/
def fnExactCompareRecordsUptoCard : Claim7 := { stood := { row := fnExactCompareRecordsUptoRow, standIns := [], harness := (true, "9e0cace32d288aa376e31f51007870323f90d0cb2b0dba05eb6d71eedf1cfd7e"), looks := true }, kinds := [], alts := [], laidByText := true, laidKinds := [.data, .data, .data, .data, .sentinel, .sentinel, .data, .pinned], laidTests := true, laidLooks := .later }
def FnExactCompareRecordsUptoCardSaid : Prop := Claim7.holds Tryz.pinned (.plain (OpenSpec.upto fnExactCompareRecordsSpec)) fnExactCompareRecordsUptoCard

/-- THE SECOND FORM's CARD OF 'laws.FnExactCutMessage'. -/
def fnExactCutMessageUptoCard : Claim7 := { stood := { row := fnExactCutMessageUptoRow, standIns := [], harness := (true, "9e0cace32d288aa376e31f51007870323f90d0cb2b0dba05eb6d71eedf1cfd7e"), looks := true }, kinds := [], alts := [], laidByText := true, laidKinds := [.data, .data, .data, .data, .sentinel, .sentinel, .data, .pinned], laidTests := true, laidLooks := .later }
def FnExactCutMessageUptoCardSaid : Prop := Claim7.holds Tryz.pinned (.plain (OpenSpec.upto fnExactCutMessageSpec)) fnExactCutMessageUptoCard
end Rows
end Go.Proofs.YtpghpeombednkaaGreatDoor
