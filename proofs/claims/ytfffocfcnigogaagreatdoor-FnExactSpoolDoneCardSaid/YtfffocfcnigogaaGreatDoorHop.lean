/- Contracts: lines of hosts at a mail's beginning. -/
import Derived.Test.YtfffocfcnigogaaGreatDoorPlains
import Derived.Test.YtfffocfcnigogaaGreatDoorBasis
import Derived.Test.YtfffocfcnigogaaGreatDoorAddrs
import Derived.WalkSpells
namespace Go.Proofs.YtfffocfcnigogaaGreatDoor
open Go Go.RowKit

def hopsOfB (xs : List ByteArray) : Int := if bodyB xs then hopsN xs else -1

end Go.Proofs.YtfffocfcnigogaaGreatDoor
