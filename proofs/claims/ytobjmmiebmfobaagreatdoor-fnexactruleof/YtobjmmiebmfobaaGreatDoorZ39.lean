import Derived.Test.YtobjmmiebmfobaaGreatDoorCards
import Derived.Test.YtobjmmiebmfobaaGreatDoorZ07
namespace Go.Proofs.YtobjmmiebmfobaaGreatDoor.ruleOf
open Go.ChangeShapes Go.WideShapes Go.ChangeAt Go.RowKit Go.Deep

set_option maxRecDepth 100000 in
/-- What the row asks of the program's text alone. -/
theorem closed : joinedFacts Tryz.pinned.checked.prog 3 Tryz.f3 (OpenSpec.ofChange Rows.fnExactRuleOfSpec).bare Rows.fnExactRuleOfRow = true := by kernel_rfl
end Go.Proofs.YtobjmmiebmfobaaGreatDoor.ruleOf
