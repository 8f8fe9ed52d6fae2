import Derived.Test.YtjbhhllfbonaiaaProg
namespace Go.Proofs.Ytjbhhllfbonaiaa

/-- A number that lies between two. -/
def inB (n lo hi : Int) : Bool := decide (lo ≤ n) && decide (n ≤ hi)
end Go.Proofs.Ytjbhhllfbonaiaa
