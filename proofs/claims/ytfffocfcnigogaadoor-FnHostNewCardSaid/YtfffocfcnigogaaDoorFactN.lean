/- A closed fact of the seat's program, proved once a seat (the kernel needs much memory for it: a text of its own). -/
import Derived.Test.YtfffocfcnigogaaDoorRows
import Derived.KernelRfl
import GoSem.ClaimSevenParts
namespace Go.Proofs.YtfffocfcnigogaaDoor
open Go
theorem fMain : Tryd.pinned.checked.prog.mainIs = some (true, ("df06e7c08191bf15de22a3bb0067b1f7edc4690ba9b3ec0972bad4cd8393aeb2" : String).toList) := by kernel_rfl
end Go.Proofs.YtfffocfcnigogaaDoor
