/-
  DERIVED. GIVEN WITH THE SEED: THE CARDS: each row of YtoeffplfkdogdaaDoorRows.lean that lists a variable, with what it lists TIED to the program's text (the seventh form; the later family's looks); each row that meets fmt, with fmt's text TOLD by the authors' own Lean function (tested against real Go, not proved from fmt's source: count such statements apart). THE CARD IS WHAT COUNTS. Prove the row's statement (the work); the ties are given (YtoeffplfkdogdaaDoorTie.lean); close each card by the builder's one call (the guide's Derived/Test/ToyasCard.lean, 'card_holds'). Laid BY PROGRAM, IN A SANDBOX (cutbox-door.mjs). By AI agents, Wed Nov 11 2026. No macro, syntax, notation, axiom, sorry.
-/
import Derived.Test.YtoeffplfkdogdaaDoorRows
import GoSem.ClaimSeven
namespace Go.Proofs.YtoeffplfkdogdaaDoor
namespace Rows

/-- THE TIED CARD OF 'laws.FnExactGapFor'. -/
def fnExactGapForCard : Claim7 := { stood := { row := fnExactGapForRow, standIns := [], harness := (true, "d0848d1e0cb5ac51b176ddaf817076825fb1ca45d29da806a24e92b3711a76c8"), looks := false }, kinds := [], alts := [], laidByText := true, laidKinds := [.data, .data, .pinned], laidTests := true, laidLooks := .later }
def FnExactGapForCardSaid : Prop := Claim7.holds Tryd.pinned (.plain (OpenSpec.ofChange fnExactGapForSpec)) fnExactGapForCard

/-- THE TIED CARD OF 'laws.FnExactCheckAbsent'. -/
def fnExactCheckAbsentCard : Claim7 := { stood := { row := fnExactCheckAbsentRow, standIns := [], harness := (true, "d0848d1e0cb5ac51b176ddaf817076825fb1ca45d29da806a24e92b3711a76c8"), looks := false }, kinds := [], alts := [], laidByText := true, laidKinds := [.data, .data, .pinned], laidTests := true, laidLooks := .later }
def FnExactCheckAbsentCardSaid : Prop := Claim7.holds Tryd.pinned (.plain (OpenSpec.ofChange fnExactCheckAbsentSpec)) fnExactCheckAbsentCard

/-- THE SECOND FORM's CARD OF 'laws.FnExactGapFor'. -/
def fnExactGapForUptoCard : Claim7 := { stood := { row := fnExactGapForUptoRow, standIns := [], harness := (true, "d0848d1e0cb5ac51b176ddaf817076825fb1ca45d29da806a24e92b3711a76c8"), looks := false }, kinds := [], alts := [], laidByText := true, laidKinds := [.data, .data, .pinned], laidTests := true, laidLooks := .later }
def FnExactGapForUptoCardSaid : Prop := Claim7.holds Tryd.pinned (.plain (OpenSpec.upto fnExactGapForSpec)) fnExactGapForUptoCard

/-- THE SECOND FORM's CARD OF 'laws.FnExactCheckAbsent'. -/
def fnExactCheckAbsentUptoCard : Claim7 := { stood := { row := fnExactCheckAbsentUptoRow, standIns := [], harness := (true, "d0848d1e0cb5ac51b176ddaf817076825fb1ca45d29da806a24e92b3711a76c8"), looks := false }, kinds := [], alts := [], laidByText := true, laidKinds := [.data, .data, .pinned], laidTests := true, laidLooks := .later }
def FnExactCheckAbsentUptoCardSaid : Prop := Claim7.holds Tryd.pinned (.plain (OpenSpec.upto fnExactCheckAbsentSpec)) fnExactCheckAbsentUptoCard
end Rows
end Go.Proofs.YtoeffplfkdogdaaDoor
