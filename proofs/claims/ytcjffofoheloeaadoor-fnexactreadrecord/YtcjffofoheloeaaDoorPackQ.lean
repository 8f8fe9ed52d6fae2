import Derived.Test.YtcjffofoheloeaaDoorPackP
import Derived.Handy
namespace Go.Proofs.YtcjffofoheloeaaDoor
open Go.RowKit

end Go.Proofs.YtcjffofoheloeaaDoor
