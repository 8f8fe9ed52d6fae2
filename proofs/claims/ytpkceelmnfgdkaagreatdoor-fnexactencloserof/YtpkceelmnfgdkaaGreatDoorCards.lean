/-
  DERIVED. GIVEN WITH THE SEED: THE CARDS: each row of YtpkceelmnfgdkaaGreatDoorRows.lean that lists a variable, with what it lists TIED to the program's text (the seventh form; the later family's looks); each row that meets fmt, with fmt's text TOLD by the authors' own Lean function (tested against real Go, not proved from fmt's source: count such statements apart). THE CARD IS WHAT COUNTS. Prove the row's statement (the work); the ties are given (YtpkceelmnfgdkaaGreatDoorTie.lean); close each card by the builder's one call (the guide's Derived/Test/ToyasCard.lean, 'card_holds'). Laid BY PROGRAM, IN A SANDBOX (cutbox-door.mjs). By AI agents, Wed Nov 11 2026. No macro, syntax, notation, axiom, sorry.
-/
import Derived.Test.YtpkceelmnfgdkaaGreatDoorRows
import GoSem.ClaimSeven
namespace Go.Proofs.YtpkceelmnfgdkaaGreatDoor
namespace Rows

/-- THE TIED CARD OF 'laws.FnExactEncloserOf'. -/
def fnExactEncloserOfCard : Claim7 := { stood := { row := fnExactEncloserOfRow, standIns := [], harness := (true, "de8959fd0db8c682e6253883f0c497b0b4aa6e27e68a1a07b055f051f944de16"), looks := true }, kinds := [], alts := [], laidByText := true, laidKinds := [.data, .data, .data, .data, .sentinel, .sentinel, .data, .sentinel, .pinned], laidTests := true, laidLooks := .later }
def FnExactEncloserOfCardSaid : Prop := Claim7.holds Tryz.pinned (.plain (OpenSpec.ofChange fnExactEncloserOfSpec)) fnExactEncloserOfCard

/-- THE TIED CARD OF 'laws.FnExactCutAbove'. -/
def fnExactCutAboveCard : Claim7 := { stood := { row := fnExactCutAboveRow, standIns := [], harness := (true, "de8959fd0db8c682e6253883f0c497b0b4aa6e27e68a1a07b055f051f944de16"), looks := true }, kinds := [], alts := [], laidByText := true, laidKinds := [.data, .data, .data, .data, .sentinel, .sentinel, .data, .sentinel, .pinned], laidTests := true, laidLooks := .later }
def FnExactCutAboveCardSaid : Prop := Claim7.holds Tryz.pinned (.plain (OpenSpec.ofChange fnExactCutAboveSpec)) fnExactCutAboveCard

/-- THE TIED CARD OF 'laws.FnExactSetIn'. -/
def fnExactSetInCard : Claim7 := { stood := { row := fnExactSetInRow, standIns := [], harness := (true, "de8959fd0db8c682e6253883f0c497b0b4aa6e27e68a1a07b055f051f944de16"), looks := true }, kinds := [], alts := [], laidByText := true, laidKinds := [.data, .data, .data, .data, .sentinel, .sentinel, .data, .sentinel, .pinned], laidTests := true, laidLooks := .later }
def FnExactSetInCardSaid : Prop := Claim7.holds Tryz.pinned (.plain (OpenSpec.ofChange fnExactSetInSpec)) fnExactSetInCard

/-- THE SECOND FORM's CARD OF 'laws.FnExactEncloserOf'. -/
def fnExactEncloserOfUptoCard : Claim7 := { stood := { row := fnExactEncloserOfUptoRow, standIns := [], harness := (true, "de8959fd0db8c682e6253883f0c497b0b4aa6e27e68a1a07b055f051f944de16"), looks := true }, kinds := [], alts := [], laidByText := true, laidKinds := [.data, .data, .data, .data, .sentinel, .sentinel, .data, .sentinel, .pinned], laidTests := true, laidLooks := .later }
def FnExactEncloserOfUptoCardSaid : Prop := Claim7.holds Tryz.pinned (.plain (OpenSpec.upto fnExactEncloserOfSpec)) fnExactEncloserOfUptoCard

/-- THE SECOND FORM's CARD OF 'laws.FnExactCutAbove'. -/
def fnExactCutAboveUptoCard : Claim7 := { stood := { row := fnExactCutAboveUptoRow, standIns := [], harness := (true, "de8959fd0db8c682e6253883f0c497b0b4aa6e27e68a1a07b055f051f944de16"), looks := true }, kinds := [], alts := [], laidByText := true, laidKinds := [.data, .data, .data, .data, .sentinel, .sentinel, .data, .sentinel, .pinned], laidTests := true, laidLooks := .later }
def FnExactCutAboveUptoCardSaid : Prop := Claim7.holds Tryz.pinned (.plain (OpenSpec.upto fnExactCutAboveSpec)) fnExactCutAboveUptoCard

/-- THE SECOND FORM's CARD OF 'laws.FnExactSetIn'. -/
def fnExactSetInUptoCard : Claim7 := { stood := { row := fnExactSetInUptoRow, standIns := [], harness := (true, "de8959fd0db8c682e6253883f0c497b0b4aa6e27e68a1a07b055f051f944de16"), looks := true }, kinds := [], alts := [], laidByText := true, laidKinds := [.data, .data, .data, .data, .sentinel, .sentinel, .data, .sentinel, .pinned], laidTests := true, laidLooks := .later }
def FnExactSetInUptoCardSaid : Prop := Claim7.holds Tryz.pinned (.plain (OpenSpec.upto fnExactSetInSpec)) fnExactSetInUptoCard
end Rows
end Go.Proofs.YtpkceelmnfgdkaaGreatDoor
