/-
  DERIVED. GIVEN WITH THE SEED: THE CARDS: each row of YtejkmjpkimfbfaaDoorRows.lean that lists a variable, with what it lists TIED to the program's text (the seventh form; the later family's looks); each row that meets fmt, with fmt's text TOLD by the authors' own Lean function (tested against real Go, not proved from fmt's source: count such statements apart). THE CARD IS WHAT COUNTS. Prove the row's statement (the work); the ties are given (YtejkmjpkimfbfaaDoorTie.lean); close each card by the builder's one call (the guide's Derived/Test/ToyasCard.lean, 'card_holds'). Laid BY PROGRAM, IN A SANDBOX (cutbox-door.mjs). By AI agents, Wed Nov 11 2026. No macro, syntax, notation, axiom, sorry.
-/
import Derived.Test.YtejkmjpkimfbfaaDoorRows
import GoSem.ClaimSeven
namespace Go.Proofs.YtejkmjpkimfbfaaDoor
namespace Rows

/-- THE TIED CARD OF 'laws.FnExactGoodName'. -/
def fnExactGoodNameCard : Claim7 := { stood := { row := fnExactGoodNameRow, standIns := [], harness := (true, "c9ea562d6e2e51aecf825f58204f040c6b194ff45739947ebe6ab475904206ec"), looks := false }, kinds := [], alts := [], laidByText := true, laidKinds := [.data, .data, .pinned], laidTests := true, laidLooks := .later }
def FnExactGoodNameCardSaid : Prop := Claim7.holds Tryd.pinned (.plain (OpenSpec.ofChange fnExactGoodNameSpec)) fnExactGoodNameCard

/-- THE TIED CARD OF 'laws.FnExactLabelsOf'. -/
def fnExactLabelsOfCard : Claim7 := { stood := { row := fnExactLabelsOfRow, standIns := [], harness := (true, "c9ea562d6e2e51aecf825f58204f040c6b194ff45739947ebe6ab475904206ec"), looks := false }, kinds := [], alts := [], laidByText := true, laidKinds := [.data, .data, .pinned], laidTests := true, laidLooks := .later }
def FnExactLabelsOfCardSaid : Prop := Claim7.holds Tryd.pinned (.plain (OpenSpec.ofChange fnExactLabelsOfSpec)) fnExactLabelsOfCard

/-- THE TIED CARD OF 'laws.FnExactNameOf'. -/
def fnExactNameOfCard : Claim7 := { stood := { row := fnExactNameOfRow, standIns := [], harness := (true, "c9ea562d6e2e51aecf825f58204f040c6b194ff45739947ebe6ab475904206ec"), looks := false }, kinds := [], alts := [], laidByText := true, laidKinds := [.data], laidTests := true, laidLooks := .later }
def FnExactNameOfCardSaid : Prop := Claim7.holds Tryd.pinned (.plain (OpenSpec.ofChange fnExactNameOfSpec)) fnExactNameOfCard

/-- THE TIED CARD OF 'laws.FnExactParentOf'. -/
def fnExactParentOfCard : Claim7 := { stood := { row := fnExactParentOfRow, standIns := [], harness := (true, "c9ea562d6e2e51aecf825f58204f040c6b194ff45739947ebe6ab475904206ec"), looks := false }, kinds := [], alts := [], laidByText := true, laidKinds := [.data, .data, .pinned], laidTests := true, laidLooks := .later }
def FnExactParentOfCardSaid : Prop := Claim7.holds Tryd.pinned (.plain (OpenSpec.ofChange fnExactParentOfSpec)) fnExactParentOfCard

/-- THE TIED CARD OF 'laws.FnExactIsBelow'. -/
def fnExactIsBelowCard : Claim7 := { stood := { row := fnExactIsBelowRow, standIns := [], harness := (true, "c9ea562d6e2e51aecf825f58204f040c6b194ff45739947ebe6ab475904206ec"), looks := false }, kinds := [], alts := [], laidByText := true, laidKinds := [.data, .data, .pinned], laidTests := true, laidLooks := .later }
def FnExactIsBelowCardSaid : Prop := Claim7.holds Tryd.pinned (.plain (OpenSpec.ofChange fnExactIsBelowSpec)) fnExactIsBelowCard

/-- THE TIED CARD OF 'laws.FnExactCompareNames'. -/
def fnExactCompareNamesCard : Claim7 := { stood := { row := fnExactCompareNamesRow, standIns := [], harness := (true, "c9ea562d6e2e51aecf825f58204f040c6b194ff45739947ebe6ab475904206ec"), looks := false }, kinds := [], alts := [], laidByText := true, laidKinds := [.data, .data, .pinned], laidTests := true, laidLooks := .later }
def FnExactCompareNamesCardSaid : Prop := Claim7.holds Tryd.pinned (.plain (OpenSpec.ofChange fnExactCompareNamesSpec)) fnExactCompareNamesCard

/-- THE TIED CARD OF 'laws.FnExactSortNames'. -/
def fnExactSortNamesCard : Claim7 := { stood := { row := fnExactSortNamesRow, standIns := [], harness := (true, "c9ea562d6e2e51aecf825f58204f040c6b194ff45739947ebe6ab475904206ec"), looks := false }, kinds := [], alts := [], laidByText := true, laidKinds := [.data, .data, .pinned], laidTests := true, laidLooks := .later }
def FnExactSortNamesCardSaid : Prop := Claim7.holds Tryd.pinned (.plain (OpenSpec.ofChange fnExactSortNamesSpec)) fnExactSortNamesCard

/-- THE TIED CARD OF 'laws.FnExactFoldName'. -/
def fnExactFoldNameCard : Claim7 := { stood := { row := fnExactFoldNameRow, standIns := [], harness := (true, "c9ea562d6e2e51aecf825f58204f040c6b194ff45739947ebe6ab475904206ec"), looks := false }, kinds := [], alts := [], laidByText := true, laidKinds := [.data, .data, .pinned], laidTests := true, laidLooks := .later }
def FnExactFoldNameCardSaid : Prop := Claim7.holds Tryd.pinned (.plain (OpenSpec.ofChange fnExactFoldNameSpec)) fnExactFoldNameCard

/-- THE TIED CARD OF 'laws.FnExactCommonOf'. -/
def fnExactCommonOfCard : Claim7 := { stood := { row := fnExactCommonOfRow, standIns := [], harness := (true, "c9ea562d6e2e51aecf825f58204f040c6b194ff45739947ebe6ab475904206ec"), looks := false }, kinds := [], alts := [], laidByText := true, laidKinds := [.data, .data, .pinned], laidTests := true, laidLooks := .later }
def FnExactCommonOfCardSaid : Prop := Claim7.holds Tryd.pinned (.plain (OpenSpec.ofChange fnExactCommonOfSpec)) fnExactCommonOfCard

/-- THE TIED CARD OF 'laws.FnExactWildOf'. -/
def fnExactWildOfCard : Claim7 := { stood := { row := fnExactWildOfRow, standIns := [], harness := (true, "c9ea562d6e2e51aecf825f58204f040c6b194ff45739947ebe6ab475904206ec"), looks := false }, kinds := [], alts := [], laidByText := true, laidKinds := [.data, .data, .pinned], laidTests := true, laidLooks := .later }
def FnExactWildOfCardSaid : Prop := Claim7.holds Tryd.pinned (.plain (OpenSpec.ofChange fnExactWildOfSpec)) fnExactWildOfCard

/-- THE TIED CARD OF 'laws.FnExactNameBytes'. -/
def fnExactNameBytesCard : Claim7 := { stood := { row := fnExactNameBytesRow, standIns := [], harness := (true, "c9ea562d6e2e51aecf825f58204f040c6b194ff45739947ebe6ab475904206ec"), looks := false }, kinds := [], alts := [], laidByText := true, laidKinds := [.data, .data, .pinned], laidTests := true, laidLooks := .later }
def FnExactNameBytesCardSaid : Prop := Claim7.holds Tryd.pinned (.plain (OpenSpec.ofChange fnExactNameBytesSpec)) fnExactNameBytesCard

/-- THE TIED CARD OF 'laws.FnExactTakeName'. -/
def fnExactTakeNameCard : Claim7 := { stood := { row := fnExactTakeNameRow, standIns := [], harness := (true, "c9ea562d6e2e51aecf825f58204f040c6b194ff45739947ebe6ab475904206ec"), looks := false }, kinds := [], alts := [], laidByText := true, laidKinds := [.data], laidTests := true, laidLooks := .later }
def FnExactTakeNameCardSaid : Prop := Claim7.holds Tryd.pinned (.plain (OpenSpec.ofChange fnExactTakeNameSpec)) fnExactTakeNameCard

/-- THE TIED CARD OF 'laws.FnExactPackNames'. -/
def fnExactPackNamesCard : Claim7 := { stood := { row := fnExactPackNamesRow, standIns := [], harness := (true, "c9ea562d6e2e51aecf825f58204f040c6b194ff45739947ebe6ab475904206ec"), looks := false }, kinds := [], alts := [], laidByText := true, laidKinds := [.data, .data, .pinned], laidTests := true, laidLooks := .later }
def FnExactPackNamesCardSaid : Prop := Claim7.holds Tryd.pinned (.plain (OpenSpec.ofChange fnExactPackNamesSpec)) fnExactPackNamesCard

/-- THE TIED CARD OF 'laws.FnExactUnpackNames'. -/
def fnExactUnpackNamesCard : Claim7 := { stood := { row := fnExactUnpackNamesRow, standIns := [], harness := (true, "c9ea562d6e2e51aecf825f58204f040c6b194ff45739947ebe6ab475904206ec"), looks := false }, kinds := [], alts := [], laidByText := true, laidKinds := [.data], laidTests := true, laidLooks := .later }
def FnExactUnpackNamesCardSaid : Prop := Claim7.holds Tryd.pinned (.plain (OpenSpec.ofChange fnExactUnpackNamesSpec)) fnExactUnpackNamesCard

/-- THE TIED CARD OF 'laws.FnExactPutName'. -/
def fnExactPutNameCard : Claim7 := { stood := { row := fnExactPutNameRow, standIns := [], harness := (true, "c9ea562d6e2e51aecf825f58204f040c6b194ff45739947ebe6ab475904206ec"), looks := false }, kinds := [], alts := [], laidByText := true, laidKinds := [.data, .data, .pinned], laidTests := true, laidLooks := .later }
def FnExactPutNameCardSaid : Prop := Claim7.holds Tryd.pinned (.plain (OpenSpec.ofChange fnExactPutNameSpec)) fnExactPutNameCard

/-- THE TIED CARD OF 'laws.FnExactSuffixesOf'. -/
def fnExactSuffixesOfCard : Claim7 := { stood := { row := fnExactSuffixesOfRow, standIns := [], harness := (true, "c9ea562d6e2e51aecf825f58204f040c6b194ff45739947ebe6ab475904206ec"), looks := false }, kinds := [], alts := [], laidByText := true, laidKinds := [.data], laidTests := true, laidLooks := .later }
def FnExactSuffixesOfCardSaid : Prop := Claim7.holds Tryd.pinned (.plain (OpenSpec.ofChange fnExactSuffixesOfSpec)) fnExactSuffixesOfCard

/-- THE TIED CARD OF 'laws.FnExactPackedSize'. -/
def fnExactPackedSizeCard : Claim7 := { stood := { row := fnExactPackedSizeRow, standIns := [], harness := (true, "c9ea562d6e2e51aecf825f58204f040c6b194ff45739947ebe6ab475904206ec"), looks := false }, kinds := [], alts := [], laidByText := true, laidKinds := [.data, .data, .pinned], laidTests := true, laidLooks := .later }
def FnExactPackedSizeCardSaid : Prop := Claim7.holds Tryd.pinned (.plain (OpenSpec.ofChange fnExactPackedSizeSpec)) fnExactPackedSizeCard

/-- THE SECOND FORM's CARD OF 'laws.FnExactGoodName'. -/
def fnExactGoodNameUptoCard : Claim7 := { stood := { row := fnExactGoodNameUptoRow, standIns := [], harness := (true, "c9ea562d6e2e51aecf825f58204f040c6b194ff45739947ebe6ab475904206ec"), looks := false }, kinds := [], alts := [], laidByText := true, laidKinds := [.data, .data, .pinned], laidTests := true, laidLooks := .later }
def FnExactGoodNameUptoCardSaid : Prop := Claim7.holds Tryd.pinned (.plain (OpenSpec.upto fnExactGoodNameSpec)) fnExactGoodNameUptoCard

/-- THE SECOND FORM's CARD OF 'laws.FnExactLabelsOf'. -/
def fnExactLabelsOfUptoCard : Claim7 := { stood := { row := fnExactLabelsOfUptoRow, standIns := [], harness := (true, "c9ea562d6e2e51aecf825f58204f040c6b194ff45739947ebe6ab475904206ec"), looks := false }, kinds := [], alts := [], laidByText := true, laidKinds := [.data, .data, .pinned], laidTests := true, laidLooks := .later }
def FnExactLabelsOfUptoCardSaid : Prop := Claim7.holds Tryd.pinned (.plain (OpenSpec.upto fnExactLabelsOfSpec)) fnExactLabelsOfUptoCard

/-- THE SECOND FORM's CARD OF 'laws.FnExactNameOf'. -/
def fnExactNameOfUptoCard : Claim7 := { stood := { row := fnExactNameOfUptoRow, standIns := [], harness := (true, "c9ea562d6e2e51aecf825f58204f040c6b194ff45739947ebe6ab475904206ec"), looks := false }, kinds := [], alts := [], laidByText := true, laidKinds := [.data], laidTests := true, laidLooks := .later }
def FnExactNameOfUptoCardSaid : Prop := Claim7.holds Tryd.pinned (.plain (OpenSpec.upto fnExactNameOfSpec)) fnExactNameOfUptoCard

/-- THE SECOND FORM's CARD OF 'laws.FnExactParentOf'. -/
def fnExactParentOfUptoCard : Claim7 := { stood := { row := fnExactParentOfUptoRow, standIns := [], harness := (true, "c9ea562d6e2e51aecf825f58204f040c6b194ff45739947ebe6ab475904206ec"), looks := false }, kinds := [], alts := [], laidByText := true, laidKinds := [.data, .data, .pinned], laidTests := true, laidLooks := .later }
def FnExactParentOfUptoCardSaid : Prop := Claim7.holds Tryd.pinned (.plain (OpenSpec.upto fnExactParentOfSpec)) fnExactParentOfUptoCard

/-- THE SECOND FORM's CARD OF 'laws.FnExactIsBelow'. -/
def fnExactIsBelowUptoCard : Claim7 := { stood := { row := fnExactIsBelowUptoRow, standIns := [], harness := (true, "c9ea562d6e2e51aecf825f58204f040c6b194ff45739947ebe6ab475904206ec"), looks := false }, kinds := [], alts := [], laidByText := true, laidKinds := [.data, .data, .pinned], laidTests := true, laidLooks := .later }
def FnExactIsBelowUptoCardSaid : Prop := Claim7.holds Tryd.pinned (.plain (OpenSpec.upto fnExactIsBelowSpec)) fnExactIsBelowUptoCard

/-- THE SECOND FORM's CARD OF 'laws.FnExactCompareNames'. -/
def fnExactCompareNamesUptoCard : Claim7 := { stood := { row := fnExactCompareNamesUptoRow, standIns := [], harness := (true, "c9ea562d6e2e51aecf825f58204f040c6b194ff45739947ebe6ab475904206ec"), looks := false }, kinds := [], alts := [], laidByText := true, laidKinds := [.data, .data, .pinned], laidTests := true, laidLooks := .later }
def FnExactCompareNamesUptoCardSaid : Prop := Claim7.holds Tryd.pinned (.plain (OpenSpec.upto fnExactCompareNamesSpec)) fnExactCompareNamesUptoCard

/-- THE SECOND FORM's CARD OF 'laws.FnExactSortNames'. -/
def fnExactSortNamesUptoCard : Claim7 := { stood := { row := fnExactSortNamesUptoRow, standIns := [], harness := (true, "c9ea562d6e2e51aecf825f58204f040c6b194ff45739947ebe6ab475904206ec"), looks := false }, kinds := [], alts := [], laidByText := true, laidKinds := [.data, .data, .pinned], laidTests := true, laidLooks := .later }
def FnExactSortNamesUptoCardSaid : Prop := Claim7.holds Tryd.pinned (.plain (OpenSpec.upto fnExactSortNamesSpec)) fnExactSortNamesUptoCard

/-- THE SECOND FORM's CARD OF 'laws.FnExactFoldName'. -/
def fnExactFoldNameUptoCard : Claim7 := { stood := { row := fnExactFoldNameUptoRow, standIns := [], harness := (true, "c9ea562d6e2e51aecf825f58204f040c6b194ff45739947ebe6ab475904206ec"), looks := false }, kinds := [], alts := [], laidByText := true, laidKinds := [.data, .data, .pinned], laidTests := true, laidLooks := .later }
def FnExactFoldNameUptoCardSaid : Prop := Claim7.holds Tryd.pinned (.plain (OpenSpec.upto fnExactFoldNameSpec)) fnExactFoldNameUptoCard

/-- THE SECOND FORM's CARD OF 'laws.FnExactCommonOf'. -/
def fnExactCommonOfUptoCard : Claim7 := { stood := { row := fnExactCommonOfUptoRow, standIns := [], harness := (true, "c9ea562d6e2e51aecf825f58204f040c6b194ff45739947ebe6ab475904206ec"), looks := false }, kinds := [], alts := [], laidByText := true, laidKinds := [.data, .data, .pinned], laidTests := true, laidLooks := .later }
def FnExactCommonOfUptoCardSaid : Prop := Claim7.holds Tryd.pinned (.plain (OpenSpec.upto fnExactCommonOfSpec)) fnExactCommonOfUptoCard

/-- THE SECOND FORM's CARD OF 'laws.FnExactWildOf'. -/
def fnExactWildOfUptoCard : Claim7 := { stood := { row := fnExactWildOfUptoRow, standIns := [], harness := (true, "c9ea562d6e2e51aecf825f58204f040c6b194ff45739947ebe6ab475904206ec"), looks := false }, kinds := [], alts := [], laidByText := true, laidKinds := [.data, .data, .pinned], laidTests := true, laidLooks := .later }
def FnExactWildOfUptoCardSaid : Prop := Claim7.holds Tryd.pinned (.plain (OpenSpec.upto fnExactWildOfSpec)) fnExactWildOfUptoCard

/-- THE SECOND FORM's CARD OF 'laws.FnExactNameBytes'. -/
def fnExactNameBytesUptoCard : Claim7 := { stood := { row := fnExactNameBytesUptoRow, standIns := [], harness := (true, "c9ea562d6e2e51aecf825f58204f040c6b194ff45739947ebe6ab475904206ec"), looks := false }, kinds := [], alts := [], laidByText := true, laidKinds := [.data, .data, .pinned], laidTests := true, laidLooks := .later }
def FnExactNameBytesUptoCardSaid : Prop := Claim7.holds Tryd.pinned (.plain (OpenSpec.upto fnExactNameBytesSpec)) fnExactNameBytesUptoCard

/-- THE SECOND FORM's CARD OF 'laws.FnExactTakeName'. -/
def fnExactTakeNameUptoCard : Claim7 := { stood := { row := fnExactTakeNameUptoRow, standIns := [], harness := (true, "c9ea562d6e2e51aecf825f58204f040c6b194ff45739947ebe6ab475904206ec"), looks := false }, kinds := [], alts := [], laidByText := true, laidKinds := [.data], laidTests := true, laidLooks := .later }
def FnExactTakeNameUptoCardSaid : Prop := Claim7.holds Tryd.pinned (.plain (OpenSpec.upto fnExactTakeNameSpec)) fnExactTakeNameUptoCard

/-- THE SECOND FORM's CARD OF 'laws.FnExactPackNames'. -/
def fnExactPackNamesUptoCard : Claim7 := { stood := { row := fnExactPackNamesUptoRow, standIns := [], harness := (true, "c9ea562d6e2e51aecf825f58204f040c6b194ff45739947ebe6ab475904206ec"), looks := false }, kinds := [], alts := [], laidByText := true, laidKinds := [.data, .data, .pinned], laidTests := true, laidLooks := .later }
def FnExactPackNamesUptoCardSaid : Prop := Claim7.holds Tryd.pinned (.plain (OpenSpec.upto fnExactPackNamesSpec)) fnExactPackNamesUptoCard

/-- THE SECOND FORM's CARD OF 'laws.FnExactUnpackNames'. -/
def fnExactUnpackNamesUptoCard : Claim7 := { stood := { row := fnExactUnpackNamesUptoRow, standIns := [], harness := (true, "c9ea562d6e2e51aecf825f58204f040c6b194ff45739947ebe6ab475904206ec"), looks := false }, kinds := [], alts := [], laidByText := true, laidKinds := [.data], laidTests := true, laidLooks := .later }
def FnExactUnpackNamesUptoCardSaid : Prop := Claim7.holds Tryd.pinned (.plain (OpenSpec.upto fnExactUnpackNamesSpec)) fnExactUnpackNamesUptoCard

/-- THE SECOND FORM's CARD OF 'laws.FnExactPutName'. -/
def fnExactPutNameUptoCard : Claim7 := { stood := { row := fnExactPutNameUptoRow, standIns := [], harness := (true, "c9ea562d6e2e51aecf825f58204f040c6b194ff45739947ebe6ab475904206ec"), looks := false }, kinds := [], alts := [], laidByText := true, laidKinds := [.data, .data, .pinned], laidTests := true, laidLooks := .later }
def FnExactPutNameUptoCardSaid : Prop := Claim7.holds Tryd.pinned (.plain (OpenSpec.upto fnExactPutNameSpec)) fnExactPutNameUptoCard

/-- THE SECOND FORM's CARD OF 'laws.FnExactSuffixesOf'. -/
def fnExactSuffixesOfUptoCard : Claim7 := { stood := { row := fnExactSuffixesOfUptoRow, standIns := [], harness := (true, "c9ea562d6e2e51aecf825f58204f040c6b194ff45739947ebe6ab475904206ec"), looks := false }, kinds := [], alts := [], laidByText := true, laidKinds := [.data], laidTests := true, laidLooks := .later }
def FnExactSuffixesOfUptoCardSaid : Prop := Claim7.holds Tryd.pinned (.plain (OpenSpec.upto fnExactSuffixesOfSpec)) fnExactSuffixesOfUptoCard

/-- THE SECOND FORM's CARD OF 'laws.FnExactPackedSize'. -/
def fnExactPackedSizeUptoCard : Claim7 := { stood := { row := fnExactPackedSizeUptoRow, standIns := [], harness := (true, "c9ea562d6e2e51aecf825f58204f040c6b194ff45739947ebe6ab475904206ec"), looks := false }, kinds := [], alts := [], laidByText := true, laidKinds := [.data, .data, .pinned], laidTests := true, laidLooks := .later }
def FnExactPackedSizeUptoCardSaid : Prop := Claim7.holds Tryd.pinned (.plain (OpenSpec.upto fnExactPackedSizeSpec)) fnExactPackedSizeUptoCard
end Rows
end Go.Proofs.YtejkmjpkimfbfaaDoor
