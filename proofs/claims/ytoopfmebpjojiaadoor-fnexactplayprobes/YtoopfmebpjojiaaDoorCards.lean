/-
  DERIVED. GIVEN WITH THE SEED: THE CARDS: each row of YtoopfmebpjojiaaDoorRows.lean that lists a variable, with what it lists TIED to the program's text (the seventh form; the later family's looks); each row that meets fmt, with fmt's text TOLD by the authors' own Lean function (tested against real Go, not proved from fmt's source: count such statements apart). THE CARD IS WHAT COUNTS. Prove the row's statement (the work); the ties are given (YtoopfmebpjojiaaDoorTie.lean); close each card by the builder's one call (the guide's Derived/Test/ToyasCard.lean, 'card_holds'). Laid BY PROGRAM, IN A SANDBOX (cutbox-door.mjs). By AI agents, Wed Nov 11 2026. No macro, syntax, notation, axiom, sorry.
-/
import Derived.Test.YtoopfmebpjojiaaDoorRows
import GoSem.ClaimSeven
namespace Go.Proofs.YtoopfmebpjojiaaDoor
namespace Rows

/-- THE TIED CARD OF 'laws.FnExactNewHealth'. -/
def fnExactNewHealthCard : Claim7 := { stood := { row := fnExactNewHealthRow, standIns := [], harness := (true, "ef3c834efe3a0ba47d7f171572b1aefca3314fe5df8b05e6c68616e52fa1806a"), looks := false }, kinds := [], alts := [], laidByText := true, laidKinds := [.data, .data, .pinned], laidTests := true, laidLooks := .later }
def FnExactNewHealthCardSaid : Prop := Claim7.holds Tryd.pinned (.plain (OpenSpec.ofChange fnExactNewHealthSpec)) fnExactNewHealthCard

/-- THE TIED CARD OF 'laws.FnExactGoodHealth'. -/
def fnExactGoodHealthCard : Claim7 := { stood := { row := fnExactGoodHealthRow, standIns := [], harness := (true, "ef3c834efe3a0ba47d7f171572b1aefca3314fe5df8b05e6c68616e52fa1806a"), looks := false }, kinds := [], alts := [], laidByText := true, laidKinds := [.data, .data, .pinned], laidTests := true, laidLooks := .later }
def FnExactGoodHealthCardSaid : Prop := Claim7.holds Tryd.pinned (.plain (OpenSpec.ofChange fnExactGoodHealthSpec)) fnExactGoodHealthCard

/-- THE TIED CARD OF 'laws.FnExactTakeProbe'. -/
def fnExactTakeProbeCard : Claim7 := { stood := { row := fnExactTakeProbeRow, standIns := [], harness := (true, "ef3c834efe3a0ba47d7f171572b1aefca3314fe5df8b05e6c68616e52fa1806a"), looks := false }, kinds := [], alts := [], laidByText := true, laidKinds := [.data, .data, .pinned], laidTests := true, laidLooks := .later }
def FnExactTakeProbeCardSaid : Prop := Claim7.holds Tryd.pinned (.plain (OpenSpec.ofChange fnExactTakeProbeSpec)) fnExactTakeProbeCard

/-- THE TIED CARD OF 'laws.FnExactPlayProbes'. -/
def fnExactPlayProbesCard : Claim7 := { stood := { row := fnExactPlayProbesRow, standIns := [], harness := (true, "ef3c834efe3a0ba47d7f171572b1aefca3314fe5df8b05e6c68616e52fa1806a"), looks := false }, kinds := [], alts := [], laidByText := true, laidKinds := [.data, .data, .pinned], laidTests := true, laidLooks := .later }
def FnExactPlayProbesCardSaid : Prop := Claim7.holds Tryd.pinned (.plain (OpenSpec.ofChange fnExactPlayProbesSpec)) fnExactPlayProbesCard

/-- THE TIED CARD OF 'laws.FnExactUpIn'. -/
def fnExactUpInCard : Claim7 := { stood := { row := fnExactUpInRow, standIns := [], harness := (true, "ef3c834efe3a0ba47d7f171572b1aefca3314fe5df8b05e6c68616e52fa1806a"), looks := false }, kinds := [], alts := [], laidByText := true, laidKinds := [.data, .data, .pinned], laidTests := true, laidLooks := .later }
def FnExactUpInCardSaid : Prop := Claim7.holds Tryd.pinned (.plain (OpenSpec.ofChange fnExactUpInSpec)) fnExactUpInCard

/-- THE TIED CARD OF 'laws.FnExactIsUp'. -/
def fnExactIsUpCard : Claim7 := { stood := { row := fnExactIsUpRow, standIns := [], harness := (true, "ef3c834efe3a0ba47d7f171572b1aefca3314fe5df8b05e6c68616e52fa1806a"), looks := false }, kinds := [], alts := [], laidByText := true, laidKinds := [.data, .data, .pinned], laidTests := true, laidLooks := .later }
def FnExactIsUpCardSaid : Prop := Claim7.holds Tryd.pinned (.plain (OpenSpec.ofChange fnExactIsUpSpec)) fnExactIsUpCard

/-- THE TIED CARD OF 'laws.FnExactRowOf'. -/
def fnExactRowOfCard : Claim7 := { stood := { row := fnExactRowOfRow, standIns := [], harness := (true, "ef3c834efe3a0ba47d7f171572b1aefca3314fe5df8b05e6c68616e52fa1806a"), looks := false }, kinds := [], alts := [], laidByText := true, laidKinds := [.data, .data, .pinned], laidTests := true, laidLooks := .later }
def FnExactRowOfCardSaid : Prop := Claim7.holds Tryd.pinned (.plain (OpenSpec.ofChange fnExactRowOfSpec)) fnExactRowOfCard

/-- THE SECOND FORM's CARD OF 'laws.FnExactNewHealth'. -/
def fnExactNewHealthUptoCard : Claim7 := { stood := { row := fnExactNewHealthUptoRow, standIns := [], harness := (true, "ef3c834efe3a0ba47d7f171572b1aefca3314fe5df8b05e6c68616e52fa1806a"), looks := false }, kinds := [], alts := [], laidByText := true, laidKinds := [.data, .data, .pinned], laidTests := true, laidLooks := .later }
def FnExactNewHealthUptoCardSaid : Prop := Claim7.holds Tryd.pinned (.plain (OpenSpec.upto fnExactNewHealthSpec)) fnExactNewHealthUptoCard

/-- THE SECOND FORM's CARD OF 'laws.FnExactGoodHealth'. -/
def fnExactGoodHealthUptoCard : Claim7 := { stood := { row := fnExactGoodHealthUptoRow, standIns := [], harness := (true, "ef3c834efe3a0ba47d7f171572b1aefca3314fe5df8b05e6c68616e52fa1806a"), looks := false }, kinds := [], alts := [], laidByText := true, laidKinds := [.data, .data, .pinned], laidTests := true, laidLooks := .later }
def FnExactGoodHealthUptoCardSaid : Prop := Claim7.holds Tryd.pinned (.plain (OpenSpec.upto fnExactGoodHealthSpec)) fnExactGoodHealthUptoCard

/-- THE SECOND FORM's CARD OF 'laws.FnExactTakeProbe'. -/
def fnExactTakeProbeUptoCard : Claim7 := { stood := { row := fnExactTakeProbeUptoRow, standIns := [], harness := (true, "ef3c834efe3a0ba47d7f171572b1aefca3314fe5df8b05e6c68616e52fa1806a"), looks := false }, kinds := [], alts := [], laidByText := true, laidKinds := [.data, .data, .pinned], laidTests := true, laidLooks := .later }
def FnExactTakeProbeUptoCardSaid : Prop := Claim7.holds Tryd.pinned (.plain (OpenSpec.upto fnExactTakeProbeSpec)) fnExactTakeProbeUptoCard

/-- THE SECOND FORM's CARD OF 'laws.FnExactPlayProbes'. -/
def fnExactPlayProbesUptoCard : Claim7 := { stood := { row := fnExactPlayProbesUptoRow, standIns := [], harness := (true, "ef3c834efe3a0ba47d7f171572b1aefca3314fe5df8b05e6c68616e52fa1806a"), looks := false }, kinds := [], alts := [], laidByText := true, laidKinds := [.data, .data, .pinned], laidTests := true, laidLooks := .later }
def FnExactPlayProbesUptoCardSaid : Prop := Claim7.holds Tryd.pinned (.plain (OpenSpec.upto fnExactPlayProbesSpec)) fnExactPlayProbesUptoCard

/-- THE SECOND FORM's CARD OF 'laws.FnExactUpIn'. -/
def fnExactUpInUptoCard : Claim7 := { stood := { row := fnExactUpInUptoRow, standIns := [], harness := (true, "ef3c834efe3a0ba47d7f171572b1aefca3314fe5df8b05e6c68616e52fa1806a"), looks := false }, kinds := [], alts := [], laidByText := true, laidKinds := [.data, .data, .pinned], laidTests := true, laidLooks := .later }
def FnExactUpInUptoCardSaid : Prop := Claim7.holds Tryd.pinned (.plain (OpenSpec.upto fnExactUpInSpec)) fnExactUpInUptoCard

/-- THE SECOND FORM's CARD OF 'laws.FnExactIsUp'. -/
def fnExactIsUpUptoCard : Claim7 := { stood := { row := fnExactIsUpUptoRow, standIns := [], harness := (true, "ef3c834efe3a0ba47d7f171572b1aefca3314fe5df8b05e6c68616e52fa1806a"), looks := false }, kinds := [], alts := [], laidByText := true, laidKinds := [.data, .data, .pinned], laidTests := true, laidLooks := .later }
def FnExactIsUpUptoCardSaid : Prop := Claim7.holds Tryd.pinned (.plain (OpenSpec.upto fnExactIsUpSpec)) fnExactIsUpUptoCard

/-- THE SECOND FORM's CARD OF 'laws.FnExactRowOf'. -/
def fnExactRowOfUptoCard : Claim7 := { stood := { row := fnExactRowOfUptoRow, standIns := [], harness := (true, "ef3c834efe3a0ba47d7f171572b1aefca3314fe5df8b05e6c68616e52fa1806a"), looks := false }, kinds := [], alts := [], laidByText := true, laidKinds := [.data, .data, .pinned], laidTests := true, laidLooks := .later }
def FnExactRowOfUptoCardSaid : Prop := Claim7.holds Tryd.pinned (.plain (OpenSpec.upto fnExactRowOfSpec)) fnExactRowOfUptoCard
end Rows
end Go.Proofs.YtoopfmebpjojiaaDoor
