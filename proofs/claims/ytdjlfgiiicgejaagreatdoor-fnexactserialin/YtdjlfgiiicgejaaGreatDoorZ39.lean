import Derived.Test.YtdjlfgiiicgejaaGreatDoorCards
import Derived.Test.YtdjlfgiiicgejaaGreatDoorZ07
namespace Go.Proofs.YtdjlfgiiicgejaaGreatDoor.serialIn
open Go.ChangeShapes Go.WideShapes Go.ChangeAt Go.RowKit Go.Deep

set_option maxRecDepth 100000 in
/-- What the row asks of the program's text alone. -/
theorem closed : joinedFacts Tryz.pinned.checked.prog 7 Tryz.f7 (OpenSpec.ofChange Rows.fnExactSerialInSpec).bare Rows.fnExactSerialInRow = true := by kernel_rfl
end Go.Proofs.YtdjlfgiiicgejaaGreatDoor.serialIn
