/- Contracts: lines of hosts at a mail's beginning. -/
import Derived.Test.YtfffocfcnigogaaDoorPlains
import Derived.Test.YtfffocfcnigogaaDoorBasis
import Derived.Test.YtfffocfcnigogaaDoorAddrs
import Derived.WalkSpells
namespace Go.Proofs.YtfffocfcnigogaaDoor
open Go Go.RowKit

def hopsOfB (xs : List ByteArray) : Int := if bodyB xs then hopsN xs else -1

end Go.Proofs.YtfffocfcnigogaaDoor
