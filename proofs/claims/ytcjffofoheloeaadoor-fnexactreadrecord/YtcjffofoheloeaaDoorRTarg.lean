import Derived.Test.YtcjffofoheloeaaDoorRLaw
import Derived.Test.YtcjffofoheloeaaDoorSTarg
import Derived.Test.YtcjffofoheloeaaDoorCloneR
namespace Go.Proofs.YtcjffofoheloeaaDoor
open Go.RowKit


end Go.Proofs.YtcjffofoheloeaaDoor
