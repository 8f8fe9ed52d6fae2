/-
  DERIVED. GIVEN WITH THE SEED: THE CARDS: each row of YtfpdcpmbpeacjaaGreatDoorRows.lean that lists a variable, with what it lists TIED to the program's text (the seventh form; the later family's looks); each row that meets fmt, with fmt's text TOLD by the authors' own Lean function (tested against real Go, not proved from fmt's source: count such statements apart). THE CARD IS WHAT COUNTS. Prove the row's statement (the work); the ties are given (YtfpdcpmbpeacjaaGreatDoorTie.lean); close each card by the builder's one call (the guide's Derived/Test/ToyasCard.lean, 'card_holds'). Laid BY PROGRAM, IN A SANDBOX (cutbox-door.mjs). By AI agents, Wed Nov 11 2026. No macro, syntax, notation, axiom, sorry.
-/
import Derived.Test.YtfpdcpmbpeacjaaGreatDoorRows
import GoSem.ClaimSeven
namespace Go.Proofs.YtfpdcpmbpeacjaaGreatDoor
namespace Rows

/-- THE TIED CARD OF 'laws.FnExactGoodCache'. -/
def fnExactGoodCacheCard : Claim7 := { stood := { row := fnExactGoodCacheRow, standIns := [], harness := (true, "79cd0c7f9801fcf1da9e068d526a9808219c20b1c76f6d40b94e1365d28180a2"), looks := true }, kinds := [], alts := [], laidByText := true, laidKinds := [.data, .data, .data, .data, .sentinel, .sentinel, .data, .pinned], laidTests := true, laidLooks := .later }
def FnExactGoodCacheCardSaid : Prop := Claim7.holds Tryz.pinned (.plain (OpenSpec.ofChange fnExactGoodCacheSpec)) fnExactGoodCacheCard

/-- THE TIED CARD OF 'laws.FnExactOldestIn'. -/
def fnExactOldestInCard : Claim7 := { stood := { row := fnExactOldestInRow, standIns := [], harness := (true, "79cd0c7f9801fcf1da9e068d526a9808219c20b1c76f6d40b94e1365d28180a2"), looks := true }, kinds := [], alts := [], laidByText := true, laidKinds := [.data, .data, .data, .data, .sentinel, .sentinel, .data, .pinned], laidTests := true, laidLooks := .later }
def FnExactOldestInCardSaid : Prop := Claim7.holds Tryz.pinned (.plain (OpenSpec.ofChange fnExactOldestInSpec)) fnExactOldestInCard

/-- THE SECOND FORM's CARD OF 'laws.FnExactGoodCache'. -/
def fnExactGoodCacheUptoCard : Claim7 := { stood := { row := fnExactGoodCacheUptoRow, standIns := [], harness := (true, "79cd0c7f9801fcf1da9e068d526a9808219c20b1c76f6d40b94e1365d28180a2"), looks := true }, kinds := [], alts := [], laidByText := true, laidKinds := [.data, .data, .data, .data, .sentinel, .sentinel, .data, .pinned], laidTests := true, laidLooks := .later }
def FnExactGoodCacheUptoCardSaid : Prop := Claim7.holds Tryz.pinned (.plain (OpenSpec.upto fnExactGoodCacheSpec)) fnExactGoodCacheUptoCard

/-- THE SECOND FORM's CARD OF 'laws.FnExactOldestIn'. -/
def fnExactOldestInUptoCard : Claim7 := { stood := { row := fnExactOldestInUptoRow, standIns := [], harness := (true, "79cd0c7f9801fcf1da9e068d526a9808219c20b1c76f6d40b94e1365d28180a2"), looks := true }, kinds := [], alts := [], laidByText := true, laidKinds := [.data, .data, .data, .data, .sentinel, .sentinel, .data, .pinned], laidTests := true, laidLooks := .later }
def FnExactOldestInUptoCardSaid : Prop := Claim7.holds Tryz.pinned (.plain (OpenSpec.upto fnExactOldestInSpec)) fnExactOldestInUptoCard
end Rows
end Go.Proofs.YtfpdcpmbpeacjaaGreatDoor
