/- Contracts: lines of hosts at a mail's beginning. -/
import Derived.Test.YtfacdiimoncnnaaDoorPlains
import Derived.Test.YtfacdiimoncnnaaDoorBasis
import Derived.Test.YtfacdiimoncnnaaDoorAddrs
import Derived.WalkSpells
namespace Go.Proofs.YtfacdiimoncnnaaDoor
open Go Go.RowKit

def hopsOfB (xs : List ByteArray) : Int := if bodyB xs then hopsN xs else -1

end Go.Proofs.YtfacdiimoncnnaaDoor
