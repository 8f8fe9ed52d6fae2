/-
  DERIVED. GIVEN WITH THE SEED: THE CARDS: each row of YtlmgipmolaeclaaDoorRows.lean that lists a variable, with what it lists TIED to the program's text (the seventh form; the later family's looks); each row that meets fmt, with fmt's text TOLD by the authors' own Lean function (tested against real Go, not proved from fmt's source: count such statements apart). THE CARD IS WHAT COUNTS. Prove the row's statement (the work); the ties are given (YtlmgipmolaeclaaDoorTie.lean); close each card by the builder's one call (the guide's Derived/Test/ToyasCard.lean, 'card_holds'). Laid BY PROGRAM, IN A SANDBOX (cutbox-door.mjs). By AI agents, Wed Nov 11 2026. No macro, syntax, notation, axiom, sorry.
-/
import Derived.Test.YtlmgipmolaeclaaDoorRows
import GoSem.ClaimSeven
namespace Go.Proofs.YtlmgipmolaeclaaDoor
namespace Rows

/-- THE TIED CARD OF 'laws.FnExactGoodGaps'. -/
def fnExactGoodGapsCard : Claim7 := { stood := { row := fnExactGoodGapsRow, standIns := [], harness := (true, "a4c362b9a67a1db562b455042a88872d7f11abb53ac78fd0fb6619a9d6ef593f"), looks := false }, kinds := [], alts := [], laidByText := true, laidKinds := [.data, .data, .pinned], laidTests := true, laidLooks := .later }
def FnExactGoodGapsCardSaid : Prop := Claim7.holds Tryd.pinned (.plain (OpenSpec.ofChange fnExactGoodGapsSpec)) fnExactGoodGapsCard

/-- THE TIED CARD OF 'laws.FnExactCovers'. -/
def fnExactCoversCard : Claim7 := { stood := { row := fnExactCoversRow, standIns := [], harness := (true, "a4c362b9a67a1db562b455042a88872d7f11abb53ac78fd0fb6619a9d6ef593f"), looks := false }, kinds := [], alts := [], laidByText := true, laidKinds := [.data, .data, .pinned], laidTests := true, laidLooks := .later }
def FnExactCoversCardSaid : Prop := Claim7.holds Tryd.pinned (.plain (OpenSpec.ofChange fnExactCoversSpec)) fnExactCoversCard

/-- THE TIED CARD OF 'laws.FnExactClosestBy'. -/
def fnExactClosestByCard : Claim7 := { stood := { row := fnExactClosestByRow, standIns := [], harness := (true, "a4c362b9a67a1db562b455042a88872d7f11abb53ac78fd0fb6619a9d6ef593f"), looks := false }, kinds := [], alts := [], laidByText := true, laidKinds := [.data, .data, .pinned], laidTests := true, laidLooks := .later }
def FnExactClosestByCardSaid : Prop := Claim7.holds Tryd.pinned (.plain (OpenSpec.ofChange fnExactClosestBySpec)) fnExactClosestByCard

/-- THE SECOND FORM's CARD OF 'laws.FnExactGoodGaps'. -/
def fnExactGoodGapsUptoCard : Claim7 := { stood := { row := fnExactGoodGapsUptoRow, standIns := [], harness := (true, "a4c362b9a67a1db562b455042a88872d7f11abb53ac78fd0fb6619a9d6ef593f"), looks := false }, kinds := [], alts := [], laidByText := true, laidKinds := [.data, .data, .pinned], laidTests := true, laidLooks := .later }
def FnExactGoodGapsUptoCardSaid : Prop := Claim7.holds Tryd.pinned (.plain (OpenSpec.upto fnExactGoodGapsSpec)) fnExactGoodGapsUptoCard

/-- THE SECOND FORM's CARD OF 'laws.FnExactCovers'. -/
def fnExactCoversUptoCard : Claim7 := { stood := { row := fnExactCoversUptoRow, standIns := [], harness := (true, "a4c362b9a67a1db562b455042a88872d7f11abb53ac78fd0fb6619a9d6ef593f"), looks := false }, kinds := [], alts := [], laidByText := true, laidKinds := [.data, .data, .pinned], laidTests := true, laidLooks := .later }
def FnExactCoversUptoCardSaid : Prop := Claim7.holds Tryd.pinned (.plain (OpenSpec.upto fnExactCoversSpec)) fnExactCoversUptoCard

/-- THE SECOND FORM's CARD OF 'laws.FnExactClosestBy'. -/
def fnExactClosestByUptoCard : Claim7 := { stood := { row := fnExactClosestByUptoRow, standIns := [], harness := (true, "a4c362b9a67a1db562b455042a88872d7f11abb53ac78fd0fb6619a9d6ef593f"), looks := false }, kinds := [], alts := [], laidByText := true, laidKinds := [.data, .data, .pinned], laidTests := true, laidLooks := .later }
def FnExactClosestByUptoCardSaid : Prop := Claim7.holds Tryd.pinned (.plain (OpenSpec.upto fnExactClosestBySpec)) fnExactClosestByUptoCard
end Rows
end Go.Proofs.YtlmgipmolaeclaaDoor
