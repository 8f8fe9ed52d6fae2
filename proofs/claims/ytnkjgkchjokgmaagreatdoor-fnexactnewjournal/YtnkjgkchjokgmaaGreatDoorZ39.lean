import Derived.Test.YtnkjgkchjokgmaaGreatDoorCards
import Derived.Test.YtnkjgkchjokgmaaGreatDoorZ07
namespace Go.Proofs.YtnkjgkchjokgmaaGreatDoor.newJournal
open Go.ChangeShapes Go.WideShapes Go.ChangeAt Go.RowKit Go.Deep

set_option maxRecDepth 100000 in
/-- What the row asks of the program's text alone. -/
theorem closed : joinedFacts Tryz.pinned.checked.prog 5 Tryz.f5 (OpenSpec.ofChange Rows.fnExactNewJournalSpec).bare Rows.fnExactNewJournalRow = true := by kernel_rfl
end Go.Proofs.YtnkjgkchjokgmaaGreatDoor.newJournal
