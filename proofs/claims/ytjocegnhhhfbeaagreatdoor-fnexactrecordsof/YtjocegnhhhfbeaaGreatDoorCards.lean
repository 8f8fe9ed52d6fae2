/-
  DERIVED. GIVEN WITH THE SEED: THE CARDS: each row of YtjocegnhhhfbeaaGreatDoorRows.lean that lists a variable, with what it lists TIED to the program's text (the seventh form; the later family's looks); each row that meets fmt, with fmt's text TOLD by the authors' own Lean function (tested against real Go, not proved from fmt's source: count such statements apart). THE CARD IS WHAT COUNTS. Prove the row's statement (the work); the ties are given (YtjocegnhhhfbeaaGreatDoorTie.lean); close each card by the builder's one call (the guide's Derived/Test/ToyasCard.lean, 'card_holds'). Laid BY PROGRAM, IN A SANDBOX (cutbox-door.mjs). By AI agents, Wed Nov 11 2026. No macro, syntax, notation, axiom, sorry.
-/
import Derived.Test.YtjocegnhhhfbeaaGreatDoorRows
import GoSem.ClaimSeven
namespace Go.Proofs.YtjocegnhhhfbeaaGreatDoor
namespace Rows

/-- THE TIED CARD OF 'laws.FnExactSetsOf'. -/
def fnExactSetsOfCard : Claim7 := { stood := { row := fnExactSetsOfRow, standIns := [], harness := (true, "a328f5f2a9c2902f1d05ded7c765b6b8868e437391f24c27a69bfd32bb9b3fee"), looks := true }, kinds := [], alts := [], laidByText := true, laidKinds := [.data, .data, .data, .data, .sentinel, .sentinel, .data, .pinned], laidTests := true, laidLooks := .later }
def FnExactSetsOfCardSaid : Prop := Claim7.holds Tryz.pinned (.plain (OpenSpec.ofChange fnExactSetsOfSpec)) fnExactSetsOfCard

/-- THE TIED CARD OF 'laws.FnExactRecordsOf'. -/
def fnExactRecordsOfCard : Claim7 := { stood := { row := fnExactRecordsOfRow, standIns := [], harness := (true, "a328f5f2a9c2902f1d05ded7c765b6b8868e437391f24c27a69bfd32bb9b3fee"), looks := true }, kinds := [], alts := [], laidByText := true, laidKinds := [.data, .data, .data, .data, .sentinel, .sentinel, .data, .pinned], laidTests := true, laidLooks := .later }
def FnExactRecordsOfCardSaid : Prop := Claim7.holds Tryz.pinned (.plain (OpenSpec.ofChange fnExactRecordsOfSpec)) fnExactRecordsOfCard

/-- THE SECOND FORM's CARD OF 'laws.FnExactSetsOf'. -/
def fnExactSetsOfUptoCard : Claim7 := { stood := { row := fnExactSetsOfUptoRow, standIns := [], harness := (true, "a328f5f2a9c2902f1d05ded7c765b6b8868e437391f24c27a69bfd32bb9b3fee"), looks := true }, kinds := [], alts := [], laidByText := true, laidKinds := [.data, .data, .data, .data, .sentinel, .sentinel, .data, .pinned], laidTests := true, laidLooks := .later }
def FnExactSetsOfUptoCardSaid : Prop := Claim7.holds Tryz.pinned (.plain (OpenSpec.upto fnExactSetsOfSpec)) fnExactSetsOfUptoCard

/-- THE SECOND FORM's CARD OF 'laws.FnExactRecordsOf'. -/
def fnExactRecordsOfUptoCard : Claim7 := { stood := { row := fnExactRecordsOfUptoRow, standIns := [], harness := (true, "a328f5f2a9c2902f1d05ded7c765b6b8868e437391f24c27a69bfd32bb9b3fee"), looks := true }, kinds := [], alts := [], laidByText := true, laidKinds := [.data, .data, .data, .data, .sentinel, .sentinel, .data, .pinned], laidTests := true, laidLooks := .later }
def FnExactRecordsOfUptoCardSaid : Prop := Claim7.holds Tryz.pinned (.plain (OpenSpec.upto fnExactRecordsOfSpec)) fnExactRecordsOfUptoCard
end Rows
end Go.Proofs.YtjocegnhhhfbeaaGreatDoor
