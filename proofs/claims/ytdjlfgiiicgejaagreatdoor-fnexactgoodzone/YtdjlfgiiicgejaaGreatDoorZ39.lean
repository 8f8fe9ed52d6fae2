import Derived.Test.YtdjlfgiiicgejaaGreatDoorCards
import Derived.Test.YtdjlfgiiicgejaaGreatDoorZ07
namespace Go.Proofs.YtdjlfgiiicgejaaGreatDoor.goodZone
open Go.ChangeShapes Go.WideShapes Go.ChangeAt Go.RowKit Go.Deep

set_option maxRecDepth 100000 in
/-- What the row asks of the program's text alone. -/
theorem closed : joinedFacts Tryz.pinned.checked.prog 3 Tryz.f3 (OpenSpec.ofChange Rows.fnExactGoodZoneSpec).bare Rows.fnExactGoodZoneRow = true := by kernel_rfl
end Go.Proofs.YtdjlfgiiicgejaaGreatDoor.goodZone
