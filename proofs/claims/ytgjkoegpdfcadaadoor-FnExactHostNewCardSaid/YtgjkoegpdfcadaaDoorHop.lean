/- Contracts: lines of hosts at a mail's beginning. -/
import Derived.Test.YtgjkoegpdfcadaaDoorPlains
import Derived.Test.YtgjkoegpdfcadaaDoorBasis
import Derived.Test.YtgjkoegpdfcadaaDoorAddrs
import Derived.WalkSpells
namespace Go.Proofs.YtgjkoegpdfcadaaDoor
open Go Go.RowKit

def hopsOfB (xs : List ByteArray) : Int := if bodyB xs then hopsN xs else -1

end Go.Proofs.YtgjkoegpdfcadaaDoor
