/-
  DERIVED. GIVEN WITH THE SEED: THE CARDS: each row of YtoobaaklklommaaGreatDoorRows.lean that lists a variable, with what it lists TIED to the program's text (the seventh form; the later family's looks); each row that meets fmt, with fmt's text TOLD by the authors' own Lean function (tested against real Go, not proved from fmt's source: count such statements apart). THE CARD IS WHAT COUNTS. Prove the row's statement (the work); the ties are given (YtoobaaklklommaaGreatDoorTie.lean); close each card by the builder's one call (the guide's Derived/Test/ToyasCard.lean, 'card_holds'). Laid BY PROGRAM, IN A SANDBOX (cutbox-door.mjs). By AI agents, Wed Nov 11 2026. No macro, syntax, notation, axiom, sorry.
-/
import Derived.Test.YtoobaaklklommaaGreatDoorRows
import GoSem.ClaimSeven
namespace Go.Proofs.YtoobaaklklommaaGreatDoor
namespace Rows

/-- THE TIED CARD OF 'laws.FnExactGoodControl'. -/
def fnExactGoodControlCard : Claim7 := { stood := { row := fnExactGoodControlRow, standIns := [], harness := (true, "e481fee1a00cbb3c573d5761d6a9fa26fff321d4747abcbb88696f49fa0f1b9c"), looks := true }, kinds := [], alts := [], laidByText := true, laidKinds := [.data, .data, .data, .data, .sentinel, .sentinel, .data, .sentinel, .pinned], laidTests := true, laidLooks := .later }
def FnExactGoodControlCardSaid : Prop := Claim7.holds Tryz.pinned (.plain (OpenSpec.ofChange fnExactGoodControlSpec)) fnExactGoodControlCard

/-- THE TIED CARD OF 'laws.FnExactTakeAsked'. -/
def fnExactTakeAskedCard : Claim7 := { stood := { row := fnExactTakeAskedRow, standIns := [], harness := (true, "e481fee1a00cbb3c573d5761d6a9fa26fff321d4747abcbb88696f49fa0f1b9c"), looks := true }, kinds := [], alts := [], laidByText := true, laidKinds := [.data, .data, .data, .data, .sentinel, .sentinel, .data, .sentinel, .sentinel, .sentinel, .sentinel, .pinned], laidTests := true, laidLooks := .later }
def FnExactTakeAskedCardSaid : Prop := Claim7.holds Tryz.pinned (.plain (OpenSpec.ofChange fnExactTakeAskedSpec)) fnExactTakeAskedCard

/-- THE TIED CARD OF 'laws.FnExactPlayAsked'. -/
def fnExactPlayAskedCard : Claim7 := { stood := { row := fnExactPlayAskedRow, standIns := [], harness := (true, "e481fee1a00cbb3c573d5761d6a9fa26fff321d4747abcbb88696f49fa0f1b9c"), looks := true }, kinds := [], alts := [], laidByText := true, laidKinds := [.data, .data, .data, .data, .sentinel, .sentinel, .data, .sentinel, .sentinel, .sentinel, .sentinel, .pinned], laidTests := true, laidLooks := .later }
def FnExactPlayAskedCardSaid : Prop := Claim7.holds Tryz.pinned (.plain (OpenSpec.ofChange fnExactPlayAskedSpec)) fnExactPlayAskedCard

/-- THE TIED CARD OF 'laws.FnExactAnswerTo'. -/
def fnExactAnswerToCard : Claim7 := { stood := { row := fnExactAnswerToRow, standIns := [], harness := (true, "e481fee1a00cbb3c573d5761d6a9fa26fff321d4747abcbb88696f49fa0f1b9c"), looks := true }, kinds := [], alts := [], laidByText := true, laidKinds := [.data, .data, .data, .data, .sentinel, .sentinel, .data, .sentinel, .pinned], laidTests := true, laidLooks := .later }
def FnExactAnswerToCardSaid : Prop := Claim7.holds Tryz.pinned (.plain (OpenSpec.ofChange fnExactAnswerToSpec)) fnExactAnswerToCard

/-- THE TIED CARD OF 'laws.FnExactAskedText'. -/
def fnExactAskedTextCard : Claim7 := { stood := { row := fnExactAskedTextRow, standIns := [], harness := (true, "e481fee1a00cbb3c573d5761d6a9fa26fff321d4747abcbb88696f49fa0f1b9c"), looks := true }, kinds := [], alts := [], laidByText := true, laidKinds := [.data, .data, .data, .data, .sentinel, .sentinel, .data, .pinned], laidTests := true, laidLooks := .later }
def FnExactAskedTextCardSaid : Prop := Claim7.holds Tryz.pinned (.plain (OpenSpec.ofChange fnExactAskedTextSpec)) fnExactAskedTextCard

/-- THE TIED CARD OF 'laws.FnExactReadAsked'. -/
def fnExactReadAskedCard : Claim7 := { stood := { row := fnExactReadAskedRow, standIns := [], harness := (true, "e481fee1a00cbb3c573d5761d6a9fa26fff321d4747abcbb88696f49fa0f1b9c"), looks := true }, kinds := [], alts := [], laidByText := true, laidKinds := [.data, .data, .data, .data, .sentinel, .sentinel, .data, .pinned], laidTests := true, laidLooks := .later }
def FnExactReadAskedCardSaid : Prop := Claim7.holds Tryz.pinned (.plain (OpenSpec.ofChange fnExactReadAskedSpec)) fnExactReadAskedCard

/-- THE SECOND FORM's CARD OF 'laws.FnExactGoodControl'. -/
def fnExactGoodControlUptoCard : Claim7 := { stood := { row := fnExactGoodControlUptoRow, standIns := [], harness := (true, "e481fee1a00cbb3c573d5761d6a9fa26fff321d4747abcbb88696f49fa0f1b9c"), looks := true }, kinds := [], alts := [], laidByText := true, laidKinds := [.data, .data, .data, .data, .sentinel, .sentinel, .data, .sentinel, .pinned], laidTests := true, laidLooks := .later }
def FnExactGoodControlUptoCardSaid : Prop := Claim7.holds Tryz.pinned (.plain (OpenSpec.upto fnExactGoodControlSpec)) fnExactGoodControlUptoCard

/-- THE SECOND FORM's CARD OF 'laws.FnExactTakeAsked'. -/
def fnExactTakeAskedUptoCard : Claim7 := { stood := { row := fnExactTakeAskedUptoRow, standIns := [], harness := (true, "e481fee1a00cbb3c573d5761d6a9fa26fff321d4747abcbb88696f49fa0f1b9c"), looks := true }, kinds := [], alts := [], laidByText := true, laidKinds := [.data, .data, .data, .data, .sentinel, .sentinel, .data, .sentinel, .sentinel, .sentinel, .sentinel, .pinned], laidTests := true, laidLooks := .later }
def FnExactTakeAskedUptoCardSaid : Prop := Claim7.holds Tryz.pinned (.plain (OpenSpec.upto fnExactTakeAskedSpec)) fnExactTakeAskedUptoCard

/-- THE SECOND FORM's CARD OF 'laws.FnExactPlayAsked'. -/
def fnExactPlayAskedUptoCard : Claim7 := { stood := { row := fnExactPlayAskedUptoRow, standIns := [], harness := (true, "e481fee1a00cbb3c573d5761d6a9fa26fff321d4747abcbb88696f49fa0f1b9c"), looks := true }, kinds := [], alts := [], laidByText := true, laidKinds := [.data, .data, .data, .data, .sentinel, .sentinel, .data, .sentinel, .sentinel, .sentinel, .sentinel, .pinned], laidTests := true, laidLooks := .later }
def FnExactPlayAskedUptoCardSaid : Prop := Claim7.holds Tryz.pinned (.plain (OpenSpec.upto fnExactPlayAskedSpec)) fnExactPlayAskedUptoCard

/-- THE SECOND FORM's CARD OF 'laws.FnExactAnswerTo'. -/
def fnExactAnswerToUptoCard : Claim7 := { stood := { row := fnExactAnswerToUptoRow, standIns := [], harness := (true, "e481fee1a00cbb3c573d5761d6a9fa26fff321d4747abcbb88696f49fa0f1b9c"), looks := true }, kinds := [], alts := [], laidByText := true, laidKinds := [.data, .data, .data, .data, .sentinel, .sentinel, .data, .sentinel, .pinned], laidTests := true, laidLooks := .later }
def FnExactAnswerToUptoCardSaid : Prop := Claim7.holds Tryz.pinned (.plain (OpenSpec.upto fnExactAnswerToSpec)) fnExactAnswerToUptoCard

/-- THE SECOND FORM's CARD OF 'laws.FnExactAskedText'. -/
def fnExactAskedTextUptoCard : Claim7 := { stood := { row := fnExactAskedTextUptoRow, standIns := [], harness := (true, "e481fee1a00cbb3c573d5761d6a9fa26fff321d4747abcbb88696f49fa0f1b9c"), looks := true }, kinds := [], alts := [], laidByText := true, laidKinds := [.data, .data, .data, .data, .sentinel, .sentinel, .data, .pinned], laidTests := true, laidLooks := .later }
def FnExactAskedTextUptoCardSaid : Prop := Claim7.holds Tryz.pinned (.plain (OpenSpec.upto fnExactAskedTextSpec)) fnExactAskedTextUptoCard

/-- THE SECOND FORM's CARD OF 'laws.FnExactReadAsked'. -/
def fnExactReadAskedUptoCard : Claim7 := { stood := { row := fnExactReadAskedUptoRow, standIns := [], harness := (true, "e481fee1a00cbb3c573d5761d6a9fa26fff321d4747abcbb88696f49fa0f1b9c"), looks := true }, kinds := [], alts := [], laidByText := true, laidKinds := [.data, .data, .data, .data, .sentinel, .sentinel, .data, .pinned], laidTests := true, laidLooks := .later }
def FnExactReadAskedUptoCardSaid : Prop := Claim7.holds Tryz.pinned (.plain (OpenSpec.upto fnExactReadAskedSpec)) fnExactReadAskedUptoCard
end Rows
end Go.Proofs.YtoobaaklklommaaGreatDoor
