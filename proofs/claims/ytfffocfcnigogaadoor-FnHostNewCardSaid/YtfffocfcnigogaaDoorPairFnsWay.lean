/- Contracts: slices of Way: what is left of a size, copies, comparisons. -/
import Derived.Test.YtfffocfcnigogaaDoorMails
import Derived.Deep.RegionHeld3
namespace Go.Proofs.YtfffocfcnigogaaDoor
open Go Go.RowKit

theorem infoWay : (Tryd.prog.info? 114).map (fun i => (i.zero, i.size, i.bytes)) = some (some (.agg #[.string ByteArray.empty, .string ByteArray.empty]), 2, 32) := by kernel_rfl

end Go.Proofs.YtfffocfcnigogaaDoor
