import Derived.Test.YtoobaaklklommaaDoorProg
namespace Go.Proofs.YtoobaaklklommaaDoor

/-- A number that lies between two. -/
def inB (n lo hi : Int) : Bool := decide (lo ≤ n) && decide (n ≤ hi)
end Go.Proofs.YtoobaaklklommaaDoor
