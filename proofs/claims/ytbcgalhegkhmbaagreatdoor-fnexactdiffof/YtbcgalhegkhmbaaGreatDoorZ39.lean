import Derived.Test.YtbcgalhegkhmbaaGreatDoorCards
import Derived.Test.YtbcgalhegkhmbaaGreatDoorZ38
namespace Go.Proofs.YtbcgalhegkhmbaaGreatDoor.diffOf
open Go.ChangeShapes Go.WideShapes Go.ChangeAt Go.RowKit Go.Deep

set_option maxRecDepth 100000 in
/-- What the row asks of the program's text alone. -/
theorem closed : joinedFacts Tryz.pinned.checked.prog 3 Tryz.f3 (OpenSpec.ofChange Rows.fnExactDiffOfSpec).bare Rows.fnExactDiffOfRow = true := by kernel_rfl
end Go.Proofs.YtbcgalhegkhmbaaGreatDoor.diffOf
