/-
  DERIVED. GIVEN WITH THE SEED: THE CARDS: each row of YtphhgjdpfcmpgaaGreatDoorRows.lean that lists a variable, with what it lists TIED to the program's text (the seventh form; the later family's looks); each row that meets fmt, with fmt's text TOLD by the authors' own Lean function (tested against real Go, not proved from fmt's source: count such statements apart). THE CARD IS WHAT COUNTS. Prove the row's statement (the work); the ties are given (YtphhgjdpfcmpgaaGreatDoorTie.lean); close each card by the builder's one call (the guide's Derived/Test/ToyasCard.lean, 'card_holds'). Laid BY PROGRAM, IN A SANDBOX (cutbox-door.mjs). By AI agents, Wed Nov 11 2026. No macro, syntax, notation, axiom, sorry.
-/
import Derived.Test.YtphhgjdpfcmpgaaGreatDoorRows
import GoSem.ClaimSeven
namespace Go.Proofs.YtphhgjdpfcmpgaaGreatDoor
namespace Rows

/-- THE TIED CARD OF 'laws.FnExactMessageBytes'. -/
def fnExactMessageBytesCard : Claim7 := { stood := { row := fnExactMessageBytesRow, standIns := [], harness := (true, "c4e962d1b07c4e72e029f7032036477f577534b8cc0832cfd50fb1c75d27d82a"), looks := true }, kinds := [], alts := [], laidByText := true, laidKinds := [.data, .data, .data, .data, .sentinel, .sentinel, .data, .pinned], laidTests := true, laidLooks := .later }
def FnExactMessageBytesCardSaid : Prop := Claim7.holds Tryz.pinned (.plain (OpenSpec.ofChange fnExactMessageBytesSpec)) fnExactMessageBytesCard

/-- THE TIED CARD OF 'laws.FnExactReadMessage'. -/
def fnExactReadMessageCard : Claim7 := { stood := { row := fnExactReadMessageRow, standIns := [], harness := (true, "c4e962d1b07c4e72e029f7032036477f577534b8cc0832cfd50fb1c75d27d82a"), looks := true }, kinds := [], alts := [], laidByText := true, laidKinds := [.data, .data, .data, .data, .sentinel, .sentinel, .data, .pinned], laidTests := true, laidLooks := .later }
def FnExactReadMessageCardSaid : Prop := Claim7.holds Tryz.pinned (.plain (OpenSpec.ofChange fnExactReadMessageSpec)) fnExactReadMessageCard

/-- THE SECOND FORM's CARD OF 'laws.FnExactMessageBytes'. -/
def fnExactMessageBytesUptoCard : Claim7 := { stood := { row := fnExactMessageBytesUptoRow, standIns := [], harness := (true, "c4e962d1b07c4e72e029f7032036477f577534b8cc0832cfd50fb1c75d27d82a"), looks := true }, kinds := [], alts := [], laidByText := true, laidKinds := [.data, .data, .data, .data, .sentinel, .sentinel, .data, .pinned], laidTests := true, laidLooks := .later }
def FnExactMessageBytesUptoCardSaid : Prop := Claim7.holds Tryz.pinned (.plain (OpenSpec.upto fnExactMessageBytesSpec)) fnExactMessageBytesUptoCard

/-- THE SECOND FORM's CARD OF 'laws.FnExactReadMessage'. -/
def fnExactReadMessageUptoCard : Claim7 := { stood := { row := fnExactReadMessageUptoRow, standIns := [], harness := (true, "c4e962d1b07c4e72e029f7032036477f577534b8cc0832cfd50fb1c75d27d82a"), looks := true }, kinds := [], alts := [], laidByText := true, laidKinds := [.data, .data, .data, .data, .sentinel, .sentinel, .data, .pinned], laidTests := true, laidLooks := .later }
def FnExactReadMessageUptoCardSaid : Prop := Claim7.holds Tryz.pinned (.plain (OpenSpec.upto fnExactReadMessageSpec)) fnExactReadMessageUptoCard
end Rows
end Go.Proofs.YtphhgjdpfcmpgaaGreatDoor
