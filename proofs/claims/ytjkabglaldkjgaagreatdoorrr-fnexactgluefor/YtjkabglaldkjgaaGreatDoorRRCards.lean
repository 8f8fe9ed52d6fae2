/-
  DERIVED. GIVEN WITH THE SEED: THE CARDS: each row of YtjkabglaldkjgaaGreatDoorRRRows.lean that lists a variable, with what it lists TIED to the program's text (the seventh form; the later family's looks); each row that meets fmt, with fmt's text TOLD by the authors' own Lean function (tested against real Go, not proved from fmt's source: count such statements apart). THE CARD IS WHAT COUNTS. Prove the row's statement (the work); the ties are given (YtjkabglaldkjgaaGreatDoorRRTie.lean); close each card by the builder's one call (the guide's Derived/Test/ToyasCard.lean, 'card_holds'). Laid BY PROGRAM, IN A SANDBOX (cutbox-door.mjs). By AI agents, Wed Nov 11 2026. No macro, syntax, notation, axiom, sorry.
-/
import Derived.Test.YtjkabglaldkjgaaGreatDoorRRRows
import GoSem.ClaimSeven
namespace Go.Proofs.YtjkabglaldkjgaaGreatDoorRR
namespace Rows

/-- THE TIED CARD OF 'laws.FnExactGlueFor'. -/
def fnExactGlueForCard : Claim7 := { stood := { row := fnExactGlueForRow, standIns := [], harness := (true, "03fb384f55aa230a9c47d7c31bbd98502fc364499f4f879c52bfae05b010db89"), looks := true }, kinds := [], alts := [], laidByText := true, laidKinds := [.data, .data, .data, .data, .sentinel, .sentinel, .data, .sentinel, .pinned], laidTests := true, laidLooks := .later }
def FnExactGlueForCardSaid : Prop := Claim7.holds Tryz.pinned (.plain (OpenSpec.ofChange fnExactGlueForSpec)) fnExactGlueForCard

/-- THE SECOND FORM's CARD OF 'laws.FnExactGlueFor'. -/
def fnExactGlueForUptoCard : Claim7 := { stood := { row := fnExactGlueForUptoRow, standIns := [], harness := (true, "03fb384f55aa230a9c47d7c31bbd98502fc364499f4f879c52bfae05b010db89"), looks := true }, kinds := [], alts := [], laidByText := true, laidKinds := [.data, .data, .data, .data, .sentinel, .sentinel, .data, .sentinel, .pinned], laidTests := true, laidLooks := .later }
def FnExactGlueForUptoCardSaid : Prop := Claim7.holds Tryz.pinned (.plain (OpenSpec.upto fnExactGlueForSpec)) fnExactGlueForUptoCard
end Rows
end Go.Proofs.YtjkabglaldkjgaaGreatDoorRR
