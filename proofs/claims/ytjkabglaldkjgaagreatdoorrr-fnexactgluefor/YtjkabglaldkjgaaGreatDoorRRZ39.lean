import Derived.Test.YtjkabglaldkjgaaGreatDoorRRCards
import Derived.Test.YtjkabglaldkjgaaGreatDoorRRZ07
namespace Go.Proofs.YtjkabglaldkjgaaGreatDoorRR.glueFor
open Go.ChangeShapes Go.WideShapes Go.ChangeAt Go.RowKit Go.Deep

set_option maxRecDepth 100000 in
/-- What the row asks of the program's text alone. -/
theorem closed : joinedFacts Tryz.pinned.checked.prog 3 Tryz.f3 (OpenSpec.ofChange Rows.fnExactGlueForSpec).bare Rows.fnExactGlueForRow = true := by kernel_rfl
end Go.Proofs.YtjkabglaldkjgaaGreatDoorRR.glueFor
