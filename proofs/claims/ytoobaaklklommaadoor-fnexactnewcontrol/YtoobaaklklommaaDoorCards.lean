/-
  DERIVED. GIVEN WITH THE SEED: THE CARDS: each row of YtoobaaklklommaaDoorRows.lean that lists a variable, with what it lists TIED to the program's text (the seventh form; the later family's looks); each row that meets fmt, with fmt's text TOLD by the authors' own Lean function (tested against real Go, not proved from fmt's source: count such statements apart). THE CARD IS WHAT COUNTS. Prove the row's statement (the work); the ties are given (YtoobaaklklommaaDoorTie.lean); close each card by the builder's one call (the guide's Derived/Test/ToyasCard.lean, 'card_holds'). Laid BY PROGRAM, IN A SANDBOX (cutbox-door.mjs). By AI agents, Wed Nov 11 2026. No macro, syntax, notation, axiom, sorry.
-/
import Derived.Test.YtoobaaklklommaaDoorRows
import GoSem.ClaimSeven
namespace Go.Proofs.YtoobaaklklommaaDoor
namespace Rows

/-- THE TIED CARD OF 'laws.FnExactNewControl'. -/
def fnExactNewControlCard : Claim7 := { stood := { row := fnExactNewControlRow, standIns := [], harness := (true, "20e1904fbf0a1dff50af4c009940e247c3331ab689cff0abf9c9137ac9240712"), looks := true }, kinds := [], alts := [], laidByText := true, laidKinds := [.data, .data, .data, .data, .data, .pinned], laidTests := true, laidLooks := .later }
def FnExactNewControlCardSaid : Prop := Claim7.holds Tryd.pinned (.plain (OpenSpec.ofChange fnExactNewControlSpec)) fnExactNewControlCard

/-- THE SECOND FORM's CARD OF 'laws.FnExactNewControl'. -/
def fnExactNewControlUptoCard : Claim7 := { stood := { row := fnExactNewControlUptoRow, standIns := [], harness := (true, "20e1904fbf0a1dff50af4c009940e247c3331ab689cff0abf9c9137ac9240712"), looks := true }, kinds := [], alts := [], laidByText := true, laidKinds := [.data, .data, .data, .data, .data, .pinned], laidTests := true, laidLooks := .later }
def FnExactNewControlUptoCardSaid : Prop := Claim7.holds Tryd.pinned (.plain (OpenSpec.upto fnExactNewControlSpec)) fnExactNewControlUptoCard
end Rows
end Go.Proofs.YtoobaaklklommaaDoor
