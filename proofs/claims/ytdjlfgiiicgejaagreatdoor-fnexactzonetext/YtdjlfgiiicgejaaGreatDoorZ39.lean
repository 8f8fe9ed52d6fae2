import Derived.Test.YtdjlfgiiicgejaaGreatDoorCards
import Derived.Test.YtdjlfgiiicgejaaGreatDoorZ07
namespace Go.Proofs.YtdjlfgiiicgejaaGreatDoor.zoneText
open Go.ChangeShapes Go.WideShapes Go.ChangeAt Go.RowKit Go.Deep

set_option maxRecDepth 100000 in
/-- What the row asks of the program's text alone. -/
theorem closed : joinedFacts Tryz.pinned.checked.prog 8 Tryz.f8 (OpenSpec.ofChange Rows.fnExactZoneTextSpec).bare Rows.fnExactZoneTextRow = true := by kernel_rfl
end Go.Proofs.YtdjlfgiiicgejaaGreatDoor.zoneText
