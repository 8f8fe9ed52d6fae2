import Derived.Test.YtdjlfgiiicgejaaGreatDoorCards
import Derived.Test.YtdjlfgiiicgejaaGreatDoorZ07
namespace Go.Proofs.YtdjlfgiiicgejaaGreatDoor.setIn
open Go.ChangeShapes Go.WideShapes Go.ChangeAt Go.RowKit Go.Deep

set_option maxRecDepth 100000 in
/-- What the row asks of the program's text alone. -/
theorem closed : joinedFacts Tryz.pinned.checked.prog 5 Tryz.f5 (OpenSpec.ofChange Rows.fnExactSetInSpec).bare Rows.fnExactSetInRow = true := by kernel_rfl
end Go.Proofs.YtdjlfgiiicgejaaGreatDoor.setIn
