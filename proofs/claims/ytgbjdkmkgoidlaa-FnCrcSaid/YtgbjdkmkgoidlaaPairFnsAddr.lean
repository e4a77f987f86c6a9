/- Contracts: slices of Addr: what is left of a size, copies, comparisons. -/
import Derived.Test.YtgbjdkmkgoidlaaPairs
import Derived.Deep.RegionHeld3
namespace Go.Proofs.Ytgbjdkmkgoidlaa
open Go Go.RowKit

theorem infoAddr : (Try.prog.info? 39).map (fun i => (i.zero, i.size, i.bytes)) = some (some (.agg #[.string ByteArray.empty, .string ByteArray.empty]), 2, 32) := by kernel_rfl

end Go.Proofs.Ytgbjdkmkgoidlaa
