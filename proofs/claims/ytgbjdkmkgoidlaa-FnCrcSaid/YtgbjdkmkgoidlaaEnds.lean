/- Contracts: a domain within another. -/
import Derived.Test.YtgbjdkmkgoidlaaCut
import Derived.WalkSpells
import Derived.WalkLawsBesides
namespace Go.Proofs.Ytgbjdkmkgoidlaa
open Go Go.RowKit

end Go.Proofs.Ytgbjdkmkgoidlaa
