import Derived.Test.YtobjmmiebmfobaaGreatDoorZ29
import Derived.Test.YtobjmmiebmfobaaGreatDoorZ11
import Derived.Test.YtobjmmiebmfobaaGreatDoorZ31
import Derived.Test.YtobjmmiebmfobaaGreatDoorZ08
namespace Go.Proofs.YtobjmmiebmfobaaGreatDoor
open Go.RowKit

/-- A counter's serial, as a text. -/
def serT (ct : Int) : List UInt8 := numL (ct % 4294967296).toNat


end Go.Proofs.YtobjmmiebmfobaaGreatDoor
