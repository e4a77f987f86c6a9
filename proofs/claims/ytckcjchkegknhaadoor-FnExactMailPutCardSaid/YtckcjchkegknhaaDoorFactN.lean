/- A closed fact of the seat's program, proved once a seat (the kernel needs much memory for it: a text of its own). -/
import Derived.Test.YtckcjchkegknhaaDoorRows
import Derived.KernelRfl
import GoSem.ClaimSevenParts
namespace Go.Proofs.YtckcjchkegknhaaDoor
open Go
theorem fMain : Tryd.pinned.checked.prog.mainIs = some (true, ("9ee5aa85848e142205db6cafbfc7609b9ee7eb1aa357430878e184b4107cb052" : String).toList) := by kernel_rfl
end Go.Proofs.YtckcjchkegknhaaDoor
