import Derived.Test.YthibfbddjlacdaaGreatDoorCards
import Derived.Test.YthibfbddjlacdaaGreatDoorZ07
namespace Go.Proofs.YthibfbddjlacdaaGreatDoor.namesIn
open Go.ChangeShapes Go.WideShapes Go.ChangeAt Go.RowKit Go.Deep

set_option maxRecDepth 100000 in
/-- What the row asks of the program's text alone. -/
theorem closed : joinedFacts Tryz.pinned.checked.prog 3 Tryz.f3 (OpenSpec.ofChange Rows.fnExactNamesInSpec).bare Rows.fnExactNamesInRow = true := by kernel_rfl
end Go.Proofs.YthibfbddjlacdaaGreatDoor.namesIn
