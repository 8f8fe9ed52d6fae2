import Derived.Test.YtfbnigicigajeaaProg
namespace Go.Proofs.Ytfbnigicigajeaa

/-- A number that lies between two. -/
def inB (n lo hi : Int) : Bool := decide (lo ≤ n) && decide (n ≤ hi)
end Go.Proofs.Ytfbnigicigajeaa
