import Derived.Test.YtoobaaklklommaaGreatDoorProg
namespace Go.Proofs.YtoobaaklklommaaGreatDoor

/-- A number that lies between two. -/
def inB (n lo hi : Int) : Bool := decide (lo ≤ n) && decide (n ≤ hi)
end Go.Proofs.YtoobaaklklommaaGreatDoor
