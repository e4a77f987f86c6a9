/- Contracts: lines of hosts at a mail's beginning. -/
import Derived.Test.YtcaknjdolfheaaaDoorPlains
import Derived.Test.YtcaknjdolfheaaaDoorBasis
import Derived.Test.YtcaknjdolfheaaaDoorAddrs
import Derived.WalkSpells
namespace Go.Proofs.YtcaknjdolfheaaaDoor
open Go Go.RowKit

def hopsOfB (xs : List ByteArray) : Int := if bodyB xs then hopsN xs else -1

end Go.Proofs.YtcaknjdolfheaaaDoor
