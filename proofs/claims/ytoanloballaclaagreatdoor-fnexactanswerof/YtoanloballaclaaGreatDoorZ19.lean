import Derived.Test.YtoanloballaclaaGreatDoorProg
namespace Go.Proofs.YtoanloballaclaaGreatDoor

/-- A number that lies between two. -/
def inB (n lo hi : Int) : Bool := decide (lo ≤ n) && decide (n ≤ hi)
end Go.Proofs.YtoanloballaclaaGreatDoor
