/- Contracts: lines of hosts at a mail's beginning. -/
import Derived.Test.YtgniokkiejoccaaGreatDoorPlains
import Derived.Test.YtgniokkiejoccaaGreatDoorBasis
import Derived.Test.YtgniokkiejoccaaGreatDoorAddrs
import Derived.WalkSpells
namespace Go.Proofs.YtgniokkiejoccaaGreatDoor
open Go Go.RowKit

def hopsOfB (xs : List ByteArray) : Int := if bodyB xs then hopsN xs else -1

end Go.Proofs.YtgniokkiejoccaaGreatDoor
