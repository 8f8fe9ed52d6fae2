import Derived.Test.YtoanloballaclaaDoorProg
namespace Go.Proofs.YtoanloballaclaaDoor

/-- A number that lies between two. -/
def inB (n lo hi : Int) : Bool := decide (lo ≤ n) && decide (n ≤ hi)
end Go.Proofs.YtoanloballaclaaDoor
