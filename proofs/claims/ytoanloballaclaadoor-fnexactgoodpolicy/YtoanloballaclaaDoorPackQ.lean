import Derived.Test.YtoanloballaclaaDoorPackP
import Derived.Handy
namespace Go.Proofs.YtoanloballaclaaDoor
open Go.RowKit

end Go.Proofs.YtoanloballaclaaDoor
