/-
  DERIVED. GIVEN WITH THE SEED: THE CARDS: each row of YtdhomhmjfpnkgarDoorRows.lean that lists a variable, with what it lists TIED to the program's text (the seventh form; the later family's looks); each row that meets fmt, with fmt's text TOLD by the authors' own Lean function (tested against real Go, not proved from fmt's source: count such statements apart). THE CARD IS WHAT COUNTS. Prove the row's statement (the work); the ties are given (YtdhomhmjfpnkgarDoorTie.lean); close each card by the builder's one call (the guide's Derived/Test/ToyasCard.lean, 'card_holds'). Laid BY PROGRAM, IN A SANDBOX (cutbox-door.mjs). By AI agents, Wed Nov 11 2026. No macro, syntax, notation, axiom, sorry.
-/
import Derived.Test.YtdhomhmjfpnkgarDoorRows
import GoSem.ClaimSeven
namespace Go.Proofs.YtdhomhmjfpnkgarDoor
namespace Rows

/-- THE TIED CARD OF 'laws.FnExactSortNames'. -/
def fnExactSortNamesCard : Claim7 := { stood := { row := fnExactSortNamesRow, standIns := [], harness := (true, "2bd3130ef7054663e708f9427ad837f5b8208cd90b81cc60165a50e3a3bf5d95"), looks := false }, kinds := [], alts := [], laidByText := true, laidKinds := [.data, .data, .pinned], laidTests := true, laidLooks := .later }
def FnExactSortNamesCardSaid : Prop := Claim7.holds Tryd.pinned (.plain (OpenSpec.ofChange fnExactSortNamesSpec)) fnExactSortNamesCard

/-- THE TIED CARD OF 'laws.FnExactFoldName'. -/
def fnExactFoldNameCard : Claim7 := { stood := { row := fnExactFoldNameRow, standIns := [], harness := (true, "2bd3130ef7054663e708f9427ad837f5b8208cd90b81cc60165a50e3a3bf5d95"), looks := false }, kinds := [], alts := [], laidByText := true, laidKinds := [.data, .data, .pinned], laidTests := true, laidLooks := .later }
def FnExactFoldNameCardSaid : Prop := Claim7.holds Tryd.pinned (.plain (OpenSpec.ofChange fnExactFoldNameSpec)) fnExactFoldNameCard

/-- THE TIED CARD OF 'laws.FnExactCommonOf'. -/
def fnExactCommonOfCard : Claim7 := { stood := { row := fnExactCommonOfRow, standIns := [], harness := (true, "2bd3130ef7054663e708f9427ad837f5b8208cd90b81cc60165a50e3a3bf5d95"), looks := false }, kinds := [], alts := [], laidByText := true, laidKinds := [.data, .data, .pinned], laidTests := true, laidLooks := .later }
def FnExactCommonOfCardSaid : Prop := Claim7.holds Tryd.pinned (.plain (OpenSpec.ofChange fnExactCommonOfSpec)) fnExactCommonOfCard

/-- THE TIED CARD OF 'laws.FnExactWildOf'. -/
def fnExactWildOfCard : Claim7 := { stood := { row := fnExactWildOfRow, standIns := [], harness := (true, "2bd3130ef7054663e708f9427ad837f5b8208cd90b81cc60165a50e3a3bf5d95"), looks := false }, kinds := [], alts := [], laidByText := true, laidKinds := [.data, .data, .pinned], laidTests := true, laidLooks := .later }
def FnExactWildOfCardSaid : Prop := Claim7.holds Tryd.pinned (.plain (OpenSpec.ofChange fnExactWildOfSpec)) fnExactWildOfCard

/-- THE SECOND FORM's CARD OF 'laws.FnExactSortNames'. -/
def fnExactSortNamesUptoCard : Claim7 := { stood := { row := fnExactSortNamesUptoRow, standIns := [], harness := (true, "2bd3130ef7054663e708f9427ad837f5b8208cd90b81cc60165a50e3a3bf5d95"), looks := false }, kinds := [], alts := [], laidByText := true, laidKinds := [.data, .data, .pinned], laidTests := true, laidLooks := .later }
def FnExactSortNamesUptoCardSaid : Prop := Claim7.holds Tryd.pinned (.plain (OpenSpec.upto fnExactSortNamesSpec)) fnExactSortNamesUptoCard

/-- THE SECOND FORM's CARD OF 'laws.FnExactFoldName'. -/
def fnExactFoldNameUptoCard : Claim7 := { stood := { row := fnExactFoldNameUptoRow, standIns := [], harness := (true, "2bd3130ef7054663e708f9427ad837f5b8208cd90b81cc60165a50e3a3bf5d95"), looks := false }, kinds := [], alts := [], laidByText := true, laidKinds := [.data, .data, .pinned], laidTests := true, laidLooks := .later }
def FnExactFoldNameUptoCardSaid : Prop := Claim7.holds Tryd.pinned (.plain (OpenSpec.upto fnExactFoldNameSpec)) fnExactFoldNameUptoCard

/-- THE SECOND FORM's CARD OF 'laws.FnExactCommonOf'. -/
def fnExactCommonOfUptoCard : Claim7 := { stood := { row := fnExactCommonOfUptoRow, standIns := [], harness := (true, "2bd3130ef7054663e708f9427ad837f5b8208cd90b81cc60165a50e3a3bf5d95"), looks := false }, kinds := [], alts := [], laidByText := true, laidKinds := [.data, .data, .pinned], laidTests := true, laidLooks := .later }
def FnExactCommonOfUptoCardSaid : Prop := Claim7.holds Tryd.pinned (.plain (OpenSpec.upto fnExactCommonOfSpec)) fnExactCommonOfUptoCard

/-- THE SECOND FORM's CARD OF 'laws.FnExactWildOf'. -/
def fnExactWildOfUptoCard : Claim7 := { stood := { row := fnExactWildOfUptoRow, standIns := [], harness := (true, "2bd3130ef7054663e708f9427ad837f5b8208cd90b81cc60165a50e3a3bf5d95"), looks := false }, kinds := [], alts := [], laidByText := true, laidKinds := [.data, .data, .pinned], laidTests := true, laidLooks := .later }
def FnExactWildOfUptoCardSaid : Prop := Claim7.holds Tryd.pinned (.plain (OpenSpec.upto fnExactWildOfSpec)) fnExactWildOfUptoCard
end Rows
end Go.Proofs.YtdhomhmjfpnkgarDoor
