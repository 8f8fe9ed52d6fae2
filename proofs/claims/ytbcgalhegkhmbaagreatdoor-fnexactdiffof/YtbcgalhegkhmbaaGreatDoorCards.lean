/-
  DERIVED. GIVEN WITH THE SEED: THE CARDS: each row of YtbcgalhegkhmbaaGreatDoorRows.lean that lists a variable, with what it lists TIED to the program's text (the seventh form; the later family's looks); each row that meets fmt, with fmt's text TOLD by the authors' own Lean function (tested against real Go, not proved from fmt's source: count such statements apart). THE CARD IS WHAT COUNTS. Prove the row's statement (the work); the ties are given (YtbcgalhegkhmbaaGreatDoorTie.lean); close each card by the builder's one call (the guide's Derived/Test/ToyasCard.lean, 'card_holds'). Laid BY PROGRAM, IN A SANDBOX (cutbox-door.mjs). By AI agents, Wed Nov 11 2026. No macro, syntax, notation, axiom, sorry.
-/
import Derived.Test.YtbcgalhegkhmbaaGreatDoorRows
import GoSem.ClaimSeven
namespace Go.Proofs.YtbcgalhegkhmbaaGreatDoor
namespace Rows

/-- THE TIED CARD OF 'laws.FnExactDiffOf'. -/
def fnExactDiffOfCard : Claim7 := { stood := { row := fnExactDiffOfRow, standIns := [], harness := (true, "e184254b21223edc3dfcd3e24ae26d6f162c9b919c2c0920efa0946f32168249"), looks := true }, kinds := [], alts := [], laidByText := true, laidKinds := [.data, .data, .data, .data, .sentinel, .sentinel, .data, .sentinel, .pinned], laidTests := true, laidLooks := .later }
def FnExactDiffOfCardSaid : Prop := Claim7.holds Tryz.pinned (.plain (OpenSpec.ofChange fnExactDiffOfSpec)) fnExactDiffOfCard

/-- THE SECOND FORM's CARD OF 'laws.FnExactDiffOf'. -/
def fnExactDiffOfUptoCard : Claim7 := { stood := { row := fnExactDiffOfUptoRow, standIns := [], harness := (true, "e184254b21223edc3dfcd3e24ae26d6f162c9b919c2c0920efa0946f32168249"), looks := true }, kinds := [], alts := [], laidByText := true, laidKinds := [.data, .data, .data, .data, .sentinel, .sentinel, .data, .sentinel, .pinned], laidTests := true, laidLooks := .later }
def FnExactDiffOfUptoCardSaid : Prop := Claim7.holds Tryz.pinned (.plain (OpenSpec.upto fnExactDiffOfSpec)) fnExactDiffOfUptoCard
end Rows
end Go.Proofs.YtbcgalhegkhmbaaGreatDoor
