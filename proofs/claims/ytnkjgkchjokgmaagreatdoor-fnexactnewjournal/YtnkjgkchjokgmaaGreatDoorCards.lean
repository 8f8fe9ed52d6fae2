/-
  DERIVED. GIVEN WITH THE SEED: THE CARDS: each row of YtnkjgkchjokgmaaGreatDoorRows.lean that lists a variable, with what it lists TIED to the program's text (the seventh form; the later family's looks); each row that meets fmt, with fmt's text TOLD by the authors' own Lean function (tested against real Go, not proved from fmt's source: count such statements apart). THE CARD IS WHAT COUNTS. Prove the row's statement (the work); the ties are given (YtnkjgkchjokgmaaGreatDoorTie.lean); close each card by the builder's one call (the guide's Derived/Test/ToyasCard.lean, 'card_holds'). Laid BY PROGRAM, IN A SANDBOX (cutbox-door.mjs). By AI agents, Wed Nov 11 2026. No macro, syntax, notation, axiom, sorry.
-/
import Derived.Test.YtnkjgkchjokgmaaGreatDoorRows
import GoSem.ClaimSeven
namespace Go.Proofs.YtnkjgkchjokgmaaGreatDoor
namespace Rows

/-- THE TIED CARD OF 'laws.FnExactGoodDiff'. -/
def fnExactGoodDiffCard : Claim7 := { stood := { row := fnExactGoodDiffRow, standIns := [], harness := (true, "05708473f6c0b9047fe47a477ba5960f5ffcefe7888cd73b6beb52e62bd3cf1e"), looks := true }, kinds := [], alts := [], laidByText := true, laidKinds := [.data, .data, .data, .data, .sentinel, .sentinel, .data, .pinned], laidTests := true, laidLooks := .later }
def FnExactGoodDiffCardSaid : Prop := Claim7.holds Tryz.pinned (.plain (OpenSpec.ofChange fnExactGoodDiffSpec)) fnExactGoodDiffCard

/-- THE TIED CARD OF 'laws.FnExactBackDiff'. -/
def fnExactBackDiffCard : Claim7 := { stood := { row := fnExactBackDiffRow, standIns := [], harness := (true, "05708473f6c0b9047fe47a477ba5960f5ffcefe7888cd73b6beb52e62bd3cf1e"), looks := true }, kinds := [], alts := [], laidByText := true, laidKinds := [.data, .data, .data, .data, .sentinel, .sentinel, .data, .pinned], laidTests := true, laidLooks := .later }
def FnExactBackDiffCardSaid : Prop := Claim7.holds Tryz.pinned (.plain (OpenSpec.ofChange fnExactBackDiffSpec)) fnExactBackDiffCard

/-- THE TIED CARD OF 'laws.FnExactNewJournal'. -/
def fnExactNewJournalCard : Claim7 := { stood := { row := fnExactNewJournalRow, standIns := [], harness := (true, "05708473f6c0b9047fe47a477ba5960f5ffcefe7888cd73b6beb52e62bd3cf1e"), looks := true }, kinds := [], alts := [], laidByText := true, laidKinds := [.data, .data, .data, .data, .sentinel, .sentinel, .data, .sentinel, .pinned], laidTests := true, laidLooks := .later }
def FnExactNewJournalCardSaid : Prop := Claim7.holds Tryz.pinned (.plain (OpenSpec.ofChange fnExactNewJournalSpec)) fnExactNewJournalCard

/-- THE SECOND FORM's CARD OF 'laws.FnExactGoodDiff'. -/
def fnExactGoodDiffUptoCard : Claim7 := { stood := { row := fnExactGoodDiffUptoRow, standIns := [], harness := (true, "05708473f6c0b9047fe47a477ba5960f5ffcefe7888cd73b6beb52e62bd3cf1e"), looks := true }, kinds := [], alts := [], laidByText := true, laidKinds := [.data, .data, .data, .data, .sentinel, .sentinel, .data, .pinned], laidTests := true, laidLooks := .later }
def FnExactGoodDiffUptoCardSaid : Prop := Claim7.holds Tryz.pinned (.plain (OpenSpec.upto fnExactGoodDiffSpec)) fnExactGoodDiffUptoCard

/-- THE SECOND FORM's CARD OF 'laws.FnExactBackDiff'. -/
def fnExactBackDiffUptoCard : Claim7 := { stood := { row := fnExactBackDiffUptoRow, standIns := [], harness := (true, "05708473f6c0b9047fe47a477ba5960f5ffcefe7888cd73b6beb52e62bd3cf1e"), looks := true }, kinds := [], alts := [], laidByText := true, laidKinds := [.data, .data, .data, .data, .sentinel, .sentinel, .data, .pinned], laidTests := true, laidLooks := .later }
def FnExactBackDiffUptoCardSaid : Prop := Claim7.holds Tryz.pinned (.plain (OpenSpec.upto fnExactBackDiffSpec)) fnExactBackDiffUptoCard

/-- THE SECOND FORM's CARD OF 'laws.FnExactNewJournal'. -/
def fnExactNewJournalUptoCard : Claim7 := { stood := { row := fnExactNewJournalUptoRow, standIns := [], harness := (true, "05708473f6c0b9047fe47a477ba5960f5ffcefe7888cd73b6beb52e62bd3cf1e"), looks := true }, kinds := [], alts := [], laidByText := true, laidKinds := [.data, .data, .data, .data, .sentinel, .sentinel, .data, .sentinel, .pinned], laidTests := true, laidLooks := .later }
def FnExactNewJournalUptoCardSaid : Prop := Claim7.holds Tryz.pinned (.plain (OpenSpec.upto fnExactNewJournalSpec)) fnExactNewJournalUptoCard
end Rows
end Go.Proofs.YtnkjgkchjokgmaaGreatDoor
