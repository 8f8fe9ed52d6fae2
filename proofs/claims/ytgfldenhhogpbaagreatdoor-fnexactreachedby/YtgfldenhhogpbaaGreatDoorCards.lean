/-
  DERIVED. GIVEN WITH THE SEED: THE CARDS: each row of YtgfldenhhogpbaaGreatDoorRows.lean that lists a variable, with what it lists TIED to the program's text (the seventh form; the later family's looks); each row that meets fmt, with fmt's text TOLD by the authors' own Lean function (tested against real Go, not proved from fmt's source: count such statements apart). THE CARD IS WHAT COUNTS. Prove the row's statement (the work); the ties are given (YtgfldenhhogpbaaGreatDoorTie.lean); close each card by the builder's one call (the guide's Derived/Test/ToyasCard.lean, 'card_holds'). Laid BY PROGRAM, IN A SANDBOX (cutbox-door.mjs). By AI agents, Wed Nov 11 2026. No macro, syntax, notation, axiom, sorry.
-/
import Derived.Test.YtgfldenhhogpbaaGreatDoorRows
import GoSem.ClaimSeven
namespace Go.Proofs.YtgfldenhhogpbaaGreatDoor
namespace Rows

/-- THE TIED CARD OF 'laws.FnExactGoodWorld'. -/
def fnExactGoodWorldCard : Claim7 := { stood := { row := fnExactGoodWorldRow, standIns := [], harness := (true, "284ccc2ebe41a4b847098735e7f8982aca64ed5367ae59fd014ff04790338710"), looks := true }, kinds := [], alts := [], laidByText := true, laidKinds := [.data, .data, .data, .data, .sentinel, .sentinel, .data, .sentinel, .pinned], laidTests := true, laidLooks := .later }
def FnExactGoodWorldCardSaid : Prop := Claim7.holds Tryz.pinned (.plain (OpenSpec.ofChange fnExactGoodWorldSpec)) fnExactGoodWorldCard

/-- THE TIED CARD OF 'laws.FnExactZoneFor'. -/
def fnExactZoneForCard : Claim7 := { stood := { row := fnExactZoneForRow, standIns := [], harness := (true, "284ccc2ebe41a4b847098735e7f8982aca64ed5367ae59fd014ff04790338710"), looks := true }, kinds := [], alts := [], laidByText := true, laidKinds := [.data, .data, .data, .data, .sentinel, .sentinel, .data, .sentinel, .pinned], laidTests := true, laidLooks := .later }
def FnExactZoneForCardSaid : Prop := Claim7.holds Tryz.pinned (.plain (OpenSpec.ofChange fnExactZoneForSpec)) fnExactZoneForCard

/-- THE TIED CARD OF 'laws.FnExactReachedBy'. -/
def fnExactReachedByCard : Claim7 := { stood := { row := fnExactReachedByRow, standIns := [], harness := (true, "284ccc2ebe41a4b847098735e7f8982aca64ed5367ae59fd014ff04790338710"), looks := true }, kinds := [], alts := [], laidByText := true, laidKinds := [.data, .data, .data, .data, .sentinel, .sentinel, .data, .sentinel, .pinned], laidTests := true, laidLooks := .later }
def FnExactReachedByCardSaid : Prop := Claim7.holds Tryz.pinned (.plain (OpenSpec.ofChange fnExactReachedBySpec)) fnExactReachedByCard

/-- THE TIED CARD OF 'laws.FnExactIsDelegated'. -/
def fnExactIsDelegatedCard : Claim7 := { stood := { row := fnExactIsDelegatedRow, standIns := [], harness := (true, "284ccc2ebe41a4b847098735e7f8982aca64ed5367ae59fd014ff04790338710"), looks := true }, kinds := [], alts := [], laidByText := true, laidKinds := [.data, .data, .data, .data, .sentinel, .sentinel, .data, .sentinel, .pinned], laidTests := true, laidLooks := .later }
def FnExactIsDelegatedCardSaid : Prop := Claim7.holds Tryz.pinned (.plain (OpenSpec.ofChange fnExactIsDelegatedSpec)) fnExactIsDelegatedCard

/-- THE TIED CARD OF 'laws.FnExactAddZone'. -/
def fnExactAddZoneCard : Claim7 := { stood := { row := fnExactAddZoneRow, standIns := [], harness := (true, "284ccc2ebe41a4b847098735e7f8982aca64ed5367ae59fd014ff04790338710"), looks := true }, kinds := [], alts := [], laidByText := true, laidKinds := [.data, .data, .data, .data, .sentinel, .sentinel, .data, .sentinel, .pinned], laidTests := true, laidLooks := .later }
def FnExactAddZoneCardSaid : Prop := Claim7.holds Tryz.pinned (.plain (OpenSpec.ofChange fnExactAddZoneSpec)) fnExactAddZoneCard

/-- THE SECOND FORM's CARD OF 'laws.FnExactGoodWorld'. -/
def fnExactGoodWorldUptoCard : Claim7 := { stood := { row := fnExactGoodWorldUptoRow, standIns := [], harness := (true, "284ccc2ebe41a4b847098735e7f8982aca64ed5367ae59fd014ff04790338710"), looks := true }, kinds := [], alts := [], laidByText := true, laidKinds := [.data, .data, .data, .data, .sentinel, .sentinel, .data, .sentinel, .pinned], laidTests := true, laidLooks := .later }
def FnExactGoodWorldUptoCardSaid : Prop := Claim7.holds Tryz.pinned (.plain (OpenSpec.upto fnExactGoodWorldSpec)) fnExactGoodWorldUptoCard

/-- THE SECOND FORM's CARD OF 'laws.FnExactZoneFor'. -/
def fnExactZoneForUptoCard : Claim7 := { stood := { row := fnExactZoneForUptoRow, standIns := [], harness := (true, "284ccc2ebe41a4b847098735e7f8982aca64ed5367ae59fd014ff04790338710"), looks := true }, kinds := [], alts := [], laidByText := true, laidKinds := [.data, .data, .data, .data, .sentinel, .sentinel, .data, .sentinel, .pinned], laidTests := true, laidLooks := .later }
def FnExactZoneForUptoCardSaid : Prop := Claim7.holds Tryz.pinned (.plain (OpenSpec.upto fnExactZoneForSpec)) fnExactZoneForUptoCard

/-- THE SECOND FORM's CARD OF 'laws.FnExactReachedBy'. -/
def fnExactReachedByUptoCard : Claim7 := { stood := { row := fnExactReachedByUptoRow, standIns := [], harness := (true, "284ccc2ebe41a4b847098735e7f8982aca64ed5367ae59fd014ff04790338710"), looks := true }, kinds := [], alts := [], laidByText := true, laidKinds := [.data, .data, .data, .data, .sentinel, .sentinel, .data, .sentinel, .pinned], laidTests := true, laidLooks := .later }
def FnExactReachedByUptoCardSaid : Prop := Claim7.holds Tryz.pinned (.plain (OpenSpec.upto fnExactReachedBySpec)) fnExactReachedByUptoCard

/-- THE SECOND FORM's CARD OF 'laws.FnExactIsDelegated'. -/
def fnExactIsDelegatedUptoCard : Claim7 := { stood := { row := fnExactIsDelegatedUptoRow, standIns := [], harness := (true, "284ccc2ebe41a4b847098735e7f8982aca64ed5367ae59fd014ff04790338710"), looks := true }, kinds := [], alts := [], laidByText := true, laidKinds := [.data, .data, .data, .data, .sentinel, .sentinel, .data, .sentinel, .pinned], laidTests := true, laidLooks := .later }
def FnExactIsDelegatedUptoCardSaid : Prop := Claim7.holds Tryz.pinned (.plain (OpenSpec.upto fnExactIsDelegatedSpec)) fnExactIsDelegatedUptoCard

/-- THE SECOND FORM's CARD OF 'laws.FnExactAddZone'. -/
def fnExactAddZoneUptoCard : Claim7 := { stood := { row := fnExactAddZoneUptoRow, standIns := [], harness := (true, "284ccc2ebe41a4b847098735e7f8982aca64ed5367ae59fd014ff04790338710"), looks := true }, kinds := [], alts := [], laidByText := true, laidKinds := [.data, .data, .data, .data, .sentinel, .sentinel, .data, .sentinel, .pinned], laidTests := true, laidLooks := .later }
def FnExactAddZoneUptoCardSaid : Prop := Claim7.holds Tryz.pinned (.plain (OpenSpec.upto fnExactAddZoneSpec)) fnExactAddZoneUptoCard
end Rows
end Go.Proofs.YtgfldenhhogpbaaGreatDoor
