import Derived.Test.YtoeffplfkdogdaaDoorPlain
namespace Go.Proofs.YtoeffplfkdogdaaDoor
open Go.RowKit

end Go.Proofs.YtoeffplfkdogdaaDoor
