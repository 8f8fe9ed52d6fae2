/-
  DERIVED. GIVEN WITH THE SEED: THE CARDS: each row of YtdjhpoogbgknkabDoorRows.lean that lists a variable, with what it lists TIED to the program's text (the seventh form; the later family's looks); each row that meets fmt, with fmt's text TOLD by the authors' own Lean function (tested against real Go, not proved from fmt's source: count such statements apart). THE CARD IS WHAT COUNTS. Prove the row's statement (the work); the ties are given (YtdjhpoogbgknkabDoorTie.lean); close each card by the builder's one call (the guide's Derived/Test/ToyasCard.lean, 'card_holds'). Laid BY PROGRAM, IN A SANDBOX (cutbox-door.mjs). By AI agents, Wed Nov 11 2026. No macro, syntax, notation, axiom, sorry.
-/
import Derived.Test.YtdjhpoogbgknkabDoorRows
import GoSem.ClaimSeven
namespace Go.Proofs.YtdjhpoogbgknkabDoor
namespace Rows

/-- THE TIED CARD OF 'laws.FnExactSortNames'. -/
def fnExactSortNamesCard : Claim7 := { stood := { row := fnExactSortNamesRow, standIns := [], harness := (true, "c2dacd5252fdc46f259c6b597e778dc3194859e9a5fbe6379685ced93b622c49"), looks := false }, kinds := [], alts := [], laidByText := true, laidKinds := [.data, .data, .pinned], laidTests := true, laidLooks := .later }
def FnExactSortNamesCardSaid : Prop := Claim7.holds Tryd.pinned (.plain (OpenSpec.ofChange fnExactSortNamesSpec)) fnExactSortNamesCard

/-- THE TIED CARD OF 'laws.FnExactFoldName'. -/
def fnExactFoldNameCard : Claim7 := { stood := { row := fnExactFoldNameRow, standIns := [], harness := (true, "c2dacd5252fdc46f259c6b597e778dc3194859e9a5fbe6379685ced93b622c49"), looks := false }, kinds := [], alts := [], laidByText := true, laidKinds := [.data, .data, .pinned], laidTests := true, laidLooks := .later }
def FnExactFoldNameCardSaid : Prop := Claim7.holds Tryd.pinned (.plain (OpenSpec.ofChange fnExactFoldNameSpec)) fnExactFoldNameCard

/-- THE TIED CARD OF 'laws.FnExactCommonOf'. -/
def fnExactCommonOfCard : Claim7 := { stood := { row := fnExactCommonOfRow, standIns := [], harness := (true, "c2dacd5252fdc46f259c6b597e778dc3194859e9a5fbe6379685ced93b622c49"), looks := false }, kinds := [], alts := [], laidByText := true, laidKinds := [.data, .data, .pinned], laidTests := true, laidLooks := .later }
def FnExactCommonOfCardSaid : Prop := Claim7.holds Tryd.pinned (.plain (OpenSpec.ofChange fnExactCommonOfSpec)) fnExactCommonOfCard

/-- THE TIED CARD OF 'laws.FnExactWildOf'. -/
def fnExactWildOfCard : Claim7 := { stood := { row := fnExactWildOfRow, standIns := [], harness := (true, "c2dacd5252fdc46f259c6b597e778dc3194859e9a5fbe6379685ced93b622c49"), looks := false }, kinds := [], alts := [], laidByText := true, laidKinds := [.data, .data, .pinned], laidTests := true, laidLooks := .later }
def FnExactWildOfCardSaid : Prop := Claim7.holds Tryd.pinned (.plain (OpenSpec.ofChange fnExactWildOfSpec)) fnExactWildOfCard

/-- THE TIED CARD OF 'laws.FnExactNameBytes'. -/
def fnExactNameBytesCard : Claim7 := { stood := { row := fnExactNameBytesRow, standIns := [], harness := (true, "c2dacd5252fdc46f259c6b597e778dc3194859e9a5fbe6379685ced93b622c49"), looks := false }, kinds := [], alts := [], laidByText := true, laidKinds := [.data, .data, .pinned], laidTests := true, laidLooks := .later }
def FnExactNameBytesCardSaid : Prop := Claim7.holds Tryd.pinned (.plain (OpenSpec.ofChange fnExactNameBytesSpec)) fnExactNameBytesCard

/-- THE TIED CARD OF 'laws.FnExactTakeName'. -/
def fnExactTakeNameCard : Claim7 := { stood := { row := fnExactTakeNameRow, standIns := [], harness := (true, "c2dacd5252fdc46f259c6b597e778dc3194859e9a5fbe6379685ced93b622c49"), looks := false }, kinds := [], alts := [], laidByText := true, laidKinds := [.data], laidTests := true, laidLooks := .later }
def FnExactTakeNameCardSaid : Prop := Claim7.holds Tryd.pinned (.plain (OpenSpec.ofChange fnExactTakeNameSpec)) fnExactTakeNameCard

/-- THE SECOND FORM's CARD OF 'laws.FnExactSortNames'. -/
def fnExactSortNamesUptoCard : Claim7 := { stood := { row := fnExactSortNamesUptoRow, standIns := [], harness := (true, "c2dacd5252fdc46f259c6b597e778dc3194859e9a5fbe6379685ced93b622c49"), looks := false }, kinds := [], alts := [], laidByText := true, laidKinds := [.data, .data, .pinned], laidTests := true, laidLooks := .later }
def FnExactSortNamesUptoCardSaid : Prop := Claim7.holds Tryd.pinned (.plain (OpenSpec.upto fnExactSortNamesSpec)) fnExactSortNamesUptoCard

/-- THE SECOND FORM's CARD OF 'laws.FnExactFoldName'. -/
def fnExactFoldNameUptoCard : Claim7 := { stood := { row := fnExactFoldNameUptoRow, standIns := [], harness := (true, "c2dacd5252fdc46f259c6b597e778dc3194859e9a5fbe6379685ced93b622c49"), looks := false }, kinds := [], alts := [], laidByText := true, laidKinds := [.data, .data, .pinned], laidTests := true, laidLooks := .later }
def FnExactFoldNameUptoCardSaid : Prop := Claim7.holds Tryd.pinned (.plain (OpenSpec.upto fnExactFoldNameSpec)) fnExactFoldNameUptoCard

/-- THE SECOND FORM's CARD OF 'laws.FnExactCommonOf'. -/
def fnExactCommonOfUptoCard : Claim7 := { stood := { row := fnExactCommonOfUptoRow, standIns := [], harness := (true, "c2dacd5252fdc46f259c6b597e778dc3194859e9a5fbe6379685ced93b622c49"), looks := false }, kinds := [], alts := [], laidByText := true, laidKinds := [.data, .data, .pinned], laidTests := true, laidLooks := .later }
def FnExactCommonOfUptoCardSaid : Prop := Claim7.holds Tryd.pinned (.plain (OpenSpec.upto fnExactCommonOfSpec)) fnExactCommonOfUptoCard

/-- THE SECOND FORM's CARD OF 'laws.FnExactWildOf'. -/
def fnExactWildOfUptoCard : Claim7 := { stood := { row := fnExactWildOfUptoRow, standIns := [], harness := (true, "c2dacd5252fdc46f259c6b597e778dc3194859e9a5fbe6379685ced93b622c49"), looks := false }, kinds := [], alts := [], laidByText := true, laidKinds := [.data, .data, .pinned], laidTests := true, laidLooks := .later }
def FnExactWildOfUptoCardSaid : Prop := Claim7.holds Tryd.pinned (.plain (OpenSpec.upto fnExactWildOfSpec)) fnExactWildOfUptoCard

/-- THE SECOND FORM's CARD OF 'laws.FnExactNameBytes'. -/
def fnExactNameBytesUptoCard : Claim7 := { stood := { row := fnExactNameBytesUptoRow, standIns := [], harness := (true, "c2dacd5252fdc46f259c6b597e778dc3194859e9a5fbe6379685ced93b622c49"), looks := false }, kinds := [], alts := [], laidByText := true, laidKinds := [.data, .data, .pinned], laidTests := true, laidLooks := .later }
def FnExactNameBytesUptoCardSaid : Prop := Claim7.holds Tryd.pinned (.plain (OpenSpec.upto fnExactNameBytesSpec)) fnExactNameBytesUptoCard

/-- THE SECOND FORM's CARD OF 'laws.FnExactTakeName'. -/
def fnExactTakeNameUptoCard : Claim7 := { stood := { row := fnExactTakeNameUptoRow, standIns := [], harness := (true, "c2dacd5252fdc46f259c6b597e778dc3194859e9a5fbe6379685ced93b622c49"), looks := false }, kinds := [], alts := [], laidByText := true, laidKinds := [.data], laidTests := true, laidLooks := .later }
def FnExactTakeNameUptoCardSaid : Prop := Claim7.holds Tryd.pinned (.plain (OpenSpec.upto fnExactTakeNameSpec)) fnExactTakeNameUptoCard
end Rows
end Go.Proofs.YtdjhpoogbgknkabDoor
