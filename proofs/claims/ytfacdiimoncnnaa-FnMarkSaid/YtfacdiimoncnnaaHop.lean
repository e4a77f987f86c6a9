/- Contracts: lines of hosts at a mail's beginning. -/
import Derived.Test.YtfacdiimoncnnaaPlainHop
import Derived.Test.YtfacdiimoncnnaaCopy
import Derived.Test.YtfacdiimoncnnaaAddr
import Derived.WalkSpells
namespace Go.Proofs.Ytfacdiimoncnnaa
open Go Go.RowKit

def hopsOfB (xs : List ByteArray) : Int := if bodyB xs then hopsN xs else -1

end Go.Proofs.Ytfacdiimoncnnaa
