import Derived.Test.YtpkceelmnfgdkaaGreatDoorCards
import Derived.Test.YtpkceelmnfgdkaaGreatDoorZ07
namespace Go.Proofs.YtpkceelmnfgdkaaGreatDoor.encloserOf
open Go.ChangeShapes Go.WideShapes Go.ChangeAt Go.RowKit Go.Deep

set_option maxRecDepth 100000 in
/-- What the row asks of the program's text alone. -/
theorem closed : joinedFacts Tryz.pinned.checked.prog 3 Tryz.f3 (OpenSpec.ofChange Rows.fnExactEncloserOfSpec).bare Rows.fnExactEncloserOfRow = true := by kernel_rfl
end Go.Proofs.YtpkceelmnfgdkaaGreatDoor.encloserOf
