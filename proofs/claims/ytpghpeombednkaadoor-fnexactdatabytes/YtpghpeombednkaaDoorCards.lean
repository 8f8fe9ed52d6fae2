/-
  DERIVED. GIVEN WITH THE SEED: THE CARDS: each row of YtpghpeombednkaaDoorRows.lean that lists a variable, with what it lists TIED to the program's text (the seventh form; the later family's looks); each row that meets fmt, with fmt's text TOLD by the authors' own Lean function (tested against real Go, not proved from fmt's source: count such statements apart). THE CARD IS WHAT COUNTS. Prove the row's statement (the work); the ties are given (YtpghpeombednkaaDoorTie.lean); close each card by the builder's one call (the guide's Derived/Test/ToyasCard.lean, 'card_holds'). Laid BY PROGRAM, IN A SANDBOX (cutbox-door.mjs). By AI agents, Wed Nov 11 2026. No macro, syntax, notation, axiom, sorry.
-/
import Derived.Test.YtpghpeombednkaaDoorRows
import GoSem.ClaimSeven
namespace Go.Proofs.YtpghpeombednkaaDoor
namespace Rows

/-- THE TIED CARD OF 'laws.FnExactPutName'. -/
def fnExactPutNameCard : Claim7 := { stood := { row := fnExactPutNameRow, standIns := [], harness := (true, "949bc1fce64329d507f70ab947f75d624ce75bb4452d36787fb1e1197a0f7ace"), looks := true }, kinds := [], alts := [], laidByText := true, laidKinds := [.data, .data, .pinned], laidTests := true, laidLooks := .later }
def FnExactPutNameCardSaid : Prop := Claim7.holds Tryd.pinned (.plain (OpenSpec.ofChange fnExactPutNameSpec)) fnExactPutNameCard

/-- THE TIED CARD OF 'laws.FnExactDataBytes'. -/
def fnExactDataBytesCard : Claim7 := { stood := { row := fnExactDataBytesRow, standIns := [], harness := (true, "949bc1fce64329d507f70ab947f75d624ce75bb4452d36787fb1e1197a0f7ace"), looks := true }, kinds := [], alts := [], laidByText := true, laidKinds := [.data, .data, .data, .data, .sentinel, .sentinel, .data, .pinned], laidTests := true, laidLooks := .later }
def FnExactDataBytesCardSaid : Prop := Claim7.holds Tryd.pinned (.plain (OpenSpec.ofChange fnExactDataBytesSpec)) fnExactDataBytesCard

/-- THE SECOND FORM's CARD OF 'laws.FnExactPutName'. -/
def fnExactPutNameUptoCard : Claim7 := { stood := { row := fnExactPutNameUptoRow, standIns := [], harness := (true, "949bc1fce64329d507f70ab947f75d624ce75bb4452d36787fb1e1197a0f7ace"), looks := true }, kinds := [], alts := [], laidByText := true, laidKinds := [.data, .data, .pinned], laidTests := true, laidLooks := .later }
def FnExactPutNameUptoCardSaid : Prop := Claim7.holds Tryd.pinned (.plain (OpenSpec.upto fnExactPutNameSpec)) fnExactPutNameUptoCard

/-- THE SECOND FORM's CARD OF 'laws.FnExactDataBytes'. -/
def fnExactDataBytesUptoCard : Claim7 := { stood := { row := fnExactDataBytesUptoRow, standIns := [], harness := (true, "949bc1fce64329d507f70ab947f75d624ce75bb4452d36787fb1e1197a0f7ace"), looks := true }, kinds := [], alts := [], laidByText := true, laidKinds := [.data, .data, .data, .data, .sentinel, .sentinel, .data, .pinned], laidTests := true, laidLooks := .later }
def FnExactDataBytesUptoCardSaid : Prop := Claim7.holds Tryd.pinned (.plain (OpenSpec.upto fnExactDataBytesSpec)) fnExactDataBytesUptoCard
end Rows
end Go.Proofs.YtpghpeombednkaaDoor
