/-
  DERIVED. GIVEN WITH THE SEED: THE CARDS: each row of YtgfiahfoghnpkaaGreatDoorRows.lean that lists a variable, with what it lists TIED to the program's text (the seventh form; the later family's looks); each row that meets fmt, with fmt's text TOLD by the authors' own Lean function (tested against real Go, not proved from fmt's source: count such statements apart). THE CARD IS WHAT COUNTS. Prove the row's statement (the work); the ties are given (YtgfiahfoghnpkaaGreatDoorTie.lean); close each card by the builder's one call (the guide's Derived/Test/ToyasCard.lean, 'card_holds'). Laid BY PROGRAM, IN A SANDBOX (cutbox-door.mjs). By AI agents, Wed Nov 11 2026. No macro, syntax, notation, axiom, sorry.
-/
import Derived.Test.YtgfiahfoghnpkaaGreatDoorRows
import GoSem.ClaimSeven
namespace Go.Proofs.YtgfiahfoghnpkaaGreatDoor
namespace Rows

/-- THE TIED CARD OF 'laws.FnExactPutAnswer'. -/
def fnExactPutAnswerCard : Claim7 := { stood := { row := fnExactPutAnswerRow, standIns := [], harness := (true, "2cdd80642969e79647e974013e60f426fc258a964e104ed477cb43b06a7ece0f"), looks := true }, kinds := [], alts := [], laidByText := true, laidKinds := [.data, .data, .data, .data, .sentinel, .sentinel, .data, .pinned], laidTests := true, laidLooks := .later }
def FnExactPutAnswerCardSaid : Prop := Claim7.holds Tryz.pinned (.plain (OpenSpec.ofChange fnExactPutAnswerSpec)) fnExactPutAnswerCard

/-- THE TIED CARD OF 'laws.FnExactPutNone'. -/
def fnExactPutNoneCard : Claim7 := { stood := { row := fnExactPutNoneRow, standIns := [], harness := (true, "2cdd80642969e79647e974013e60f426fc258a964e104ed477cb43b06a7ece0f"), looks := true }, kinds := [], alts := [], laidByText := true, laidKinds := [.data, .data, .data, .data, .sentinel, .sentinel, .data, .pinned], laidTests := true, laidLooks := .later }
def FnExactPutNoneCardSaid : Prop := Claim7.holds Tryz.pinned (.plain (OpenSpec.ofChange fnExactPutNoneSpec)) fnExactPutNoneCard

/-- THE TIED CARD OF 'laws.FnExactAskCache'. -/
def fnExactAskCacheCard : Claim7 := { stood := { row := fnExactAskCacheRow, standIns := [], harness := (true, "2cdd80642969e79647e974013e60f426fc258a964e104ed477cb43b06a7ece0f"), looks := true }, kinds := [], alts := [], laidByText := true, laidKinds := [.data, .data, .data, .data, .sentinel, .sentinel, .data, .pinned], laidTests := true, laidLooks := .later }
def FnExactAskCacheCardSaid : Prop := Claim7.holds Tryz.pinned (.plain (OpenSpec.ofChange fnExactAskCacheSpec)) fnExactAskCacheCard

/-- THE TIED CARD OF 'laws.FnExactPassTime'. -/
def fnExactPassTimeCard : Claim7 := { stood := { row := fnExactPassTimeRow, standIns := [], harness := (true, "2cdd80642969e79647e974013e60f426fc258a964e104ed477cb43b06a7ece0f"), looks := true }, kinds := [], alts := [], laidByText := true, laidKinds := [.data, .data, .data, .data, .sentinel, .sentinel, .data, .pinned], laidTests := true, laidLooks := .later }
def FnExactPassTimeCardSaid : Prop := Claim7.holds Tryz.pinned (.plain (OpenSpec.ofChange fnExactPassTimeSpec)) fnExactPassTimeCard

/-- THE TIED CARD OF 'laws.FnExactDropBelow'. -/
def fnExactDropBelowCard : Claim7 := { stood := { row := fnExactDropBelowRow, standIns := [], harness := (true, "2cdd80642969e79647e974013e60f426fc258a964e104ed477cb43b06a7ece0f"), looks := true }, kinds := [], alts := [], laidByText := true, laidKinds := [.data, .data, .data, .data, .sentinel, .sentinel, .data, .pinned], laidTests := true, laidLooks := .later }
def FnExactDropBelowCardSaid : Prop := Claim7.holds Tryz.pinned (.plain (OpenSpec.ofChange fnExactDropBelowSpec)) fnExactDropBelowCard

/-- THE SECOND FORM's CARD OF 'laws.FnExactPutAnswer'. -/
def fnExactPutAnswerUptoCard : Claim7 := { stood := { row := fnExactPutAnswerUptoRow, standIns := [], harness := (true, "2cdd80642969e79647e974013e60f426fc258a964e104ed477cb43b06a7ece0f"), looks := true }, kinds := [], alts := [], laidByText := true, laidKinds := [.data, .data, .data, .data, .sentinel, .sentinel, .data, .pinned], laidTests := true, laidLooks := .later }
def FnExactPutAnswerUptoCardSaid : Prop := Claim7.holds Tryz.pinned (.plain (OpenSpec.upto fnExactPutAnswerSpec)) fnExactPutAnswerUptoCard

/-- THE SECOND FORM's CARD OF 'laws.FnExactPutNone'. -/
def fnExactPutNoneUptoCard : Claim7 := { stood := { row := fnExactPutNoneUptoRow, standIns := [], harness := (true, "2cdd80642969e79647e974013e60f426fc258a964e104ed477cb43b06a7ece0f"), looks := true }, kinds := [], alts := [], laidByText := true, laidKinds := [.data, .data, .data, .data, .sentinel, .sentinel, .data, .pinned], laidTests := true, laidLooks := .later }
def FnExactPutNoneUptoCardSaid : Prop := Claim7.holds Tryz.pinned (.plain (OpenSpec.upto fnExactPutNoneSpec)) fnExactPutNoneUptoCard

/-- THE SECOND FORM's CARD OF 'laws.FnExactAskCache'. -/
def fnExactAskCacheUptoCard : Claim7 := { stood := { row := fnExactAskCacheUptoRow, standIns := [], harness := (true, "2cdd80642969e79647e974013e60f426fc258a964e104ed477cb43b06a7ece0f"), looks := true }, kinds := [], alts := [], laidByText := true, laidKinds := [.data, .data, .data, .data, .sentinel, .sentinel, .data, .pinned], laidTests := true, laidLooks := .later }
def FnExactAskCacheUptoCardSaid : Prop := Claim7.holds Tryz.pinned (.plain (OpenSpec.upto fnExactAskCacheSpec)) fnExactAskCacheUptoCard

/-- THE SECOND FORM's CARD OF 'laws.FnExactPassTime'. -/
def fnExactPassTimeUptoCard : Claim7 := { stood := { row := fnExactPassTimeUptoRow, standIns := [], harness := (true, "2cdd80642969e79647e974013e60f426fc258a964e104ed477cb43b06a7ece0f"), looks := true }, kinds := [], alts := [], laidByText := true, laidKinds := [.data, .data, .data, .data, .sentinel, .sentinel, .data, .pinned], laidTests := true, laidLooks := .later }
def FnExactPassTimeUptoCardSaid : Prop := Claim7.holds Tryz.pinned (.plain (OpenSpec.upto fnExactPassTimeSpec)) fnExactPassTimeUptoCard

/-- THE SECOND FORM's CARD OF 'laws.FnExactDropBelow'. -/
def fnExactDropBelowUptoCard : Claim7 := { stood := { row := fnExactDropBelowUptoRow, standIns := [], harness := (true, "2cdd80642969e79647e974013e60f426fc258a964e104ed477cb43b06a7ece0f"), looks := true }, kinds := [], alts := [], laidByText := true, laidKinds := [.data, .data, .data, .data, .sentinel, .sentinel, .data, .pinned], laidTests := true, laidLooks := .later }
def FnExactDropBelowUptoCardSaid : Prop := Claim7.holds Tryz.pinned (.plain (OpenSpec.upto fnExactDropBelowSpec)) fnExactDropBelowUptoCard
end Rows
end Go.Proofs.YtgfiahfoghnpkaaGreatDoor
