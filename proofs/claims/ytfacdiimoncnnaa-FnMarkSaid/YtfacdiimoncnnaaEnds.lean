/- Contracts: a domain within another. -/
import Derived.Test.YtfacdiimoncnnaaCut
import Derived.WalkSpells
import Derived.WalkLawsBesides
namespace Go.Proofs.Ytfacdiimoncnnaa
open Go Go.RowKit

end Go.Proofs.Ytfacdiimoncnnaa
