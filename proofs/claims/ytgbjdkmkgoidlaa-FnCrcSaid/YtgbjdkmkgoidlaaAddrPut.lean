/- Contracts: how an address is written; the walks of the laws on addresses. -/
import Derived.Test.YtgbjdkmkgoidlaaAddr
namespace Go.Proofs.Ytgbjdkmkgoidlaa
open Go Go.RowKit

end Go.Proofs.Ytgbjdkmkgoidlaa
