/- Contracts: lines of hosts at a mail's beginning. -/
import Derived.Test.YtcaknjdolfheaaaGreatDoorPlains
import Derived.Test.YtcaknjdolfheaaaGreatDoorBasis
import Derived.Test.YtcaknjdolfheaaaGreatDoorAddrs
import Derived.WalkSpells
namespace Go.Proofs.YtcaknjdolfheaaaGreatDoor
open Go Go.RowKit

def hopsOfB (xs : List ByteArray) : Int := if bodyB xs then hopsN xs else -1

end Go.Proofs.YtcaknjdolfheaaaGreatDoor
