/- A closed fact of the seat's program, proved once a seat (the kernel needs much memory for it: a text of its own). -/
import Derived.Test.YtfffocfcnigogaaGreatDoorRows
import Derived.KernelRfl
import GoSem.ClaimSevenParts
namespace Go.Proofs.YtfffocfcnigogaaGreatDoor
open Go
theorem fMain : Tryz.pinned.checked.prog.mainIs = some (true, ("9aa24b4914d6f0a36fda554372a37adf6dd39d845b6f5cb8bdf30bd227dae7c0" : String).toList) := by kernel_rfl
end Go.Proofs.YtfffocfcnigogaaGreatDoor
