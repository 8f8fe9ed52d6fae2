import Derived.Test.YtpkceelmnfgdkaaGreatDoorCards
import Derived.Test.YtpkceelmnfgdkaaGreatDoorZ07
namespace Go.Proofs.YtpkceelmnfgdkaaGreatDoor.setIn
open Go.ChangeShapes Go.WideShapes Go.ChangeAt Go.RowKit Go.Deep

set_option maxRecDepth 100000 in
/-- What the row asks of the program's text alone. -/
theorem closed : joinedFacts Tryz.pinned.checked.prog 5 Tryz.f5 (OpenSpec.ofChange Rows.fnExactSetInSpec).bare Rows.fnExactSetInRow = true := by kernel_rfl
end Go.Proofs.YtpkceelmnfgdkaaGreatDoor.setIn
