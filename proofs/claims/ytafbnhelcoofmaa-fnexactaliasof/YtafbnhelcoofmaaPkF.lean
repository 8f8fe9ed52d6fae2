import Derived.Test.YtafbnhelcoofmaaPkC
namespace Go.Proofs.Ytafbnhelcoofmaa
open Go.RowKit

end Go.Proofs.Ytafbnhelcoofmaa
