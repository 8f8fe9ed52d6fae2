/-
  DERIVED. GIVEN WITH THE SEED: THE CARDS: each row of YtbgkocjpenkijaaGreatDoorRows.lean that lists a variable, with what it lists TIED to the program's text (the seventh form; the later family's looks); each row that meets fmt, with fmt's text TOLD by the authors' own Lean function (tested against real Go, not proved from fmt's source: count such statements apart). THE CARD IS WHAT COUNTS. Prove the row's statement (the work); the ties are given (YtbgkocjpenkijaaGreatDoorTie.lean); close each card by the builder's one call (the guide's Derived/Test/ToyasCard.lean, 'card_holds'). Laid BY PROGRAM, IN A SANDBOX (cutbox-door.mjs). By AI agents, Wed Nov 11 2026. No macro, syntax, notation, axiom, sorry.
-/
import Derived.Test.YtbgkocjpenkijaaGreatDoorRows
import GoSem.ClaimSeven
namespace Go.Proofs.YtbgkocjpenkijaaGreatDoor
namespace Rows

/-- THE TIED CARD OF 'laws.FnCutTo'. -/
def fnCutToCard : Claim7 := { stood := { row := fnCutToRow, standIns := [], harness := (true, "adcbaf48bd5e2ea9642663131f6ea358c1591b134010bccad06e3600e269e093"), looks := true }, kinds := [], alts := [], laidByText := true, laidKinds := [.data, .data, .data, .data, .sentinel, .sentinel, .data, .pinned], laidTests := true, laidLooks := .later }
def FnCutToCardSaid : Prop := Claim7.holds Tryz.pinned (.plain (OpenSpec.ofChange fnCutToSpec)) fnCutToCard

/-- THE TIED CARD OF 'laws.FnExactGoodMessage'. -/
def fnExactGoodMessageCard : Claim7 := { stood := { row := fnExactGoodMessageRow, standIns := [], harness := (true, "adcbaf48bd5e2ea9642663131f6ea358c1591b134010bccad06e3600e269e093"), looks := true }, kinds := [], alts := [], laidByText := true, laidKinds := [.data, .data, .data, .data, .sentinel, .sentinel, .data, .pinned], laidTests := true, laidLooks := .later }
def FnExactGoodMessageCardSaid : Prop := Claim7.holds Tryz.pinned (.plain (OpenSpec.ofChange fnExactGoodMessageSpec)) fnExactGoodMessageCard

/-- THE TIED CARD OF 'laws.FnExactMessageBytes'. -/
def fnExactMessageBytesCard : Claim7 := { stood := { row := fnExactMessageBytesRow, standIns := [], harness := (true, "adcbaf48bd5e2ea9642663131f6ea358c1591b134010bccad06e3600e269e093"), looks := true }, kinds := [], alts := [], laidByText := true, laidKinds := [.data, .data, .data, .data, .sentinel, .sentinel, .data, .pinned], laidTests := true, laidLooks := .later }
def FnExactMessageBytesCardSaid : Prop := Claim7.holds Tryz.pinned (.plain (OpenSpec.ofChange fnExactMessageBytesSpec)) fnExactMessageBytesCard

/-- THE TIED CARD OF 'laws.FnExactReadMessage'. -/
def fnExactReadMessageCard : Claim7 := { stood := { row := fnExactReadMessageRow, standIns := [], harness := (true, "adcbaf48bd5e2ea9642663131f6ea358c1591b134010bccad06e3600e269e093"), looks := true }, kinds := [], alts := [], laidByText := true, laidKinds := [.data, .data, .data, .data, .sentinel, .sentinel, .data, .pinned], laidTests := true, laidLooks := .later }
def FnExactReadMessageCardSaid : Prop := Claim7.holds Tryz.pinned (.plain (OpenSpec.ofChange fnExactReadMessageSpec)) fnExactReadMessageCard

/-- THE TIED CARD OF 'laws.FnExactCutMessage'. -/
def fnExactCutMessageCard : Claim7 := { stood := { row := fnExactCutMessageRow, standIns := [], harness := (true, "adcbaf48bd5e2ea9642663131f6ea358c1591b134010bccad06e3600e269e093"), looks := true }, kinds := [], alts := [], laidByText := true, laidKinds := [.data, .data, .data, .data, .sentinel, .sentinel, .data, .pinned], laidTests := true, laidLooks := .later }
def FnExactCutMessageCardSaid : Prop := Claim7.holds Tryz.pinned (.plain (OpenSpec.ofChange fnExactCutMessageSpec)) fnExactCutMessageCard

/-- THE TIED CARD OF 'laws.FnExactQuestionFor'. -/
def fnExactQuestionForCard : Claim7 := { stood := { row := fnExactQuestionForRow, standIns := [], harness := (true, "adcbaf48bd5e2ea9642663131f6ea358c1591b134010bccad06e3600e269e093"), looks := true }, kinds := [], alts := [], laidByText := true, laidKinds := [.data, .data, .data, .data, .sentinel, .sentinel, .data, .pinned], laidTests := true, laidLooks := .later }
def FnExactQuestionForCardSaid : Prop := Claim7.holds Tryz.pinned (.plain (OpenSpec.ofChange fnExactQuestionForSpec)) fnExactQuestionForCard

/-- THE TIED CARD OF 'laws.FnExactReplyTo'. -/
def fnExactReplyToCard : Claim7 := { stood := { row := fnExactReplyToRow, standIns := [], harness := (true, "adcbaf48bd5e2ea9642663131f6ea358c1591b134010bccad06e3600e269e093"), looks := true }, kinds := [], alts := [], laidByText := true, laidKinds := [.data, .data, .data, .data, .sentinel, .sentinel, .data, .pinned], laidTests := true, laidLooks := .later }
def FnExactReplyToCardSaid : Prop := Claim7.holds Tryz.pinned (.plain (OpenSpec.ofChange fnExactReplyToSpec)) fnExactReplyToCard

/-- THE SECOND FORM's CARD OF 'laws.FnCutTo'. -/
def fnCutToUptoCard : Claim7 := { stood := { row := fnCutToUptoRow, standIns := [], harness := (true, "adcbaf48bd5e2ea9642663131f6ea358c1591b134010bccad06e3600e269e093"), looks := true }, kinds := [], alts := [], laidByText := true, laidKinds := [.data, .data, .data, .data, .sentinel, .sentinel, .data, .pinned], laidTests := true, laidLooks := .later }
def FnCutToUptoCardSaid : Prop := Claim7.holds Tryz.pinned (.plain (OpenSpec.upto fnCutToSpec)) fnCutToUptoCard

/-- THE SECOND FORM's CARD OF 'laws.FnExactGoodMessage'. -/
def fnExactGoodMessageUptoCard : Claim7 := { stood := { row := fnExactGoodMessageUptoRow, standIns := [], harness := (true, "adcbaf48bd5e2ea9642663131f6ea358c1591b134010bccad06e3600e269e093"), looks := true }, kinds := [], alts := [], laidByText := true, laidKinds := [.data, .data, .data, .data, .sentinel, .sentinel, .data, .pinned], laidTests := true, laidLooks := .later }
def FnExactGoodMessageUptoCardSaid : Prop := Claim7.holds Tryz.pinned (.plain (OpenSpec.upto fnExactGoodMessageSpec)) fnExactGoodMessageUptoCard

/-- THE SECOND FORM's CARD OF 'laws.FnExactMessageBytes'. -/
def fnExactMessageBytesUptoCard : Claim7 := { stood := { row := fnExactMessageBytesUptoRow, standIns := [], harness := (true, "adcbaf48bd5e2ea9642663131f6ea358c1591b134010bccad06e3600e269e093"), looks := true }, kinds := [], alts := [], laidByText := true, laidKinds := [.data, .data, .data, .data, .sentinel, .sentinel, .data, .pinned], laidTests := true, laidLooks := .later }
def FnExactMessageBytesUptoCardSaid : Prop := Claim7.holds Tryz.pinned (.plain (OpenSpec.upto fnExactMessageBytesSpec)) fnExactMessageBytesUptoCard

/-- THE SECOND FORM's CARD OF 'laws.FnExactReadMessage'. -/
def fnExactReadMessageUptoCard : Claim7 := { stood := { row := fnExactReadMessageUptoRow, standIns := [], harness := (true, "adcbaf48bd5e2ea9642663131f6ea358c1591b134010bccad06e3600e269e093"), looks := true }, kinds := [], alts := [], laidByText := true, laidKinds := [.data, .data, .data, .data, .sentinel, .sentinel, .data, .pinned], laidTests := true, laidLooks := .later }
def FnExactReadMessageUptoCardSaid : Prop := Claim7.holds Tryz.pinned (.plain (OpenSpec.upto fnExactReadMessageSpec)) fnExactReadMessageUptoCard

/-- THE SECOND FORM's CARD OF 'laws.FnExactCutMessage'. -/
def fnExactCutMessageUptoCard : Claim7 := { stood := { row := fnExactCutMessageUptoRow, standIns := [], harness := (true, "adcbaf48bd5e2ea9642663131f6ea358c1591b134010bccad06e3600e269e093"), looks := true }, kinds := [], alts := [], laidByText := true, laidKinds := [.data, .data, .data, .data, .sentinel, .sentinel, .data, .pinned], laidTests := true, laidLooks := .later }
def FnExactCutMessageUptoCardSaid : Prop := Claim7.holds Tryz.pinned (.plain (OpenSpec.upto fnExactCutMessageSpec)) fnExactCutMessageUptoCard

/-- THE SECOND FORM's CARD OF 'laws.FnExactQuestionFor'. -/
def fnExactQuestionForUptoCard : Claim7 := { stood := { row := fnExactQuestionForUptoRow, standIns := [], harness := (true, "adcbaf48bd5e2ea9642663131f6ea358c1591b134010bccad06e3600e269e093"), looks := true }, kinds := [], alts := [], laidByText := true, laidKinds := [.data, .data, .data, .data, .sentinel, .sentinel, .data, .pinned], laidTests := true, laidLooks := .later }
def FnExactQuestionForUptoCardSaid : Prop := Claim7.holds Tryz.pinned (.plain (OpenSpec.upto fnExactQuestionForSpec)) fnExactQuestionForUptoCard

/-- THE SECOND FORM's CARD OF 'laws.FnExactReplyTo'. -/
def fnExactReplyToUptoCard : Claim7 := { stood := { row := fnExactReplyToUptoRow, standIns := [], harness := (true, "adcbaf48bd5e2ea9642663131f6ea358c1591b134010bccad06e3600e269e093"), looks := true }, kinds := [], alts := [], laidByText := true, laidKinds := [.data, .data, .data, .data, .sentinel, .sentinel, .data, .pinned], laidTests := true, laidLooks := .later }
def FnExactReplyToUptoCardSaid : Prop := Claim7.holds Tryz.pinned (.plain (OpenSpec.upto fnExactReplyToSpec)) fnExactReplyToUptoCard
end Rows
end Go.Proofs.YtbgkocjpenkijaaGreatDoor
