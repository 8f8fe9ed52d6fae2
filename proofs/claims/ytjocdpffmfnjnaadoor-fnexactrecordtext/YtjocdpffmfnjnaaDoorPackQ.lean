import Derived.Test.YtjocdpffmfnjnaaDoorPackP
import Derived.Handy
namespace Go.Proofs.YtjocdpffmfnjnaaDoor
open Go.RowKit

end Go.Proofs.YtjocdpffmfnjnaaDoor
