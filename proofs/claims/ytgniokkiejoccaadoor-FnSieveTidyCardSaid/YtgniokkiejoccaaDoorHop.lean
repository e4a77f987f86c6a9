/- Contracts: lines of hosts at a mail's beginning. -/
import Derived.Test.YtgniokkiejoccaaDoorPlains
import Derived.Test.YtgniokkiejoccaaDoorBasis
import Derived.Test.YtgniokkiejoccaaDoorAddrs
import Derived.WalkSpells
namespace Go.Proofs.YtgniokkiejoccaaDoor
open Go Go.RowKit

def hopsOfB (xs : List ByteArray) : Int := if bodyB xs then hopsN xs else -1

end Go.Proofs.YtgniokkiejoccaaDoor
