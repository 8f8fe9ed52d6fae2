/-
  DERIVED. GIVEN WITH THE SEED: THE CARDS: each row of YtdjlfgiiicgejaaDoorRows.lean that lists a variable, with what it lists TIED to the program's text (the seventh form; the later family's looks); each row that meets fmt, with fmt's text TOLD by the authors' own Lean function (tested against real Go, not proved from fmt's source: count such statements apart). THE CARD IS WHAT COUNTS. Prove the row's statement (the work); the ties are given (YtdjlfgiiicgejaaDoorTie.lean); close each card by the builder's one call (the guide's Derived/Test/ToyasCard.lean, 'card_holds'). Laid BY PROGRAM, IN A SANDBOX (cutbox-door.mjs). By AI agents, Wed Nov 11 2026. No macro, syntax, notation, axiom, sorry.
-/
import Derived.Test.YtdjlfgiiicgejaaDoorRows
import GoSem.ClaimSeven
namespace Go.Proofs.YtdjlfgiiicgejaaDoor
namespace Rows

/-- THE TIED CARD OF 'laws.FnExactNewZone'. -/
def fnExactNewZoneCard : Claim7 := { stood := { row := fnExactNewZoneRow, standIns := [], harness := (true, "e961258eb2d35a8393f488caf031368b7cbc465c9e3cf73a100abba9e416630e"), looks := false }, kinds := [], alts := [], laidByText := true, laidKinds := [.data, .data, .data, .data, .data, .pinned], laidTests := true, laidLooks := .later }
def FnExactNewZoneCardSaid : Prop := Claim7.holds Tryd.pinned (.plain (OpenSpec.ofChange fnExactNewZoneSpec)) fnExactNewZoneCard

/-- THE SECOND FORM's CARD OF 'laws.FnExactNewZone'. -/
def fnExactNewZoneUptoCard : Claim7 := { stood := { row := fnExactNewZoneUptoRow, standIns := [], harness := (true, "e961258eb2d35a8393f488caf031368b7cbc465c9e3cf73a100abba9e416630e"), looks := false }, kinds := [], alts := [], laidByText := true, laidKinds := [.data, .data, .data, .data, .data, .pinned], laidTests := true, laidLooks := .later }
def FnExactNewZoneUptoCardSaid : Prop := Claim7.holds Tryd.pinned (.plain (OpenSpec.upto fnExactNewZoneSpec)) fnExactNewZoneUptoCard
end Rows
end Go.Proofs.YtdjlfgiiicgejaaDoor
