/- A closed fact of the seat's program, proved once a seat (the kernel needs much memory for it: a text of its own). -/
import Derived.Test.YtfffocfcnigogaaDoorRows
import Derived.KernelRfl
import GoSem.ClaimSevenParts
namespace Go.Proofs.YtfffocfcnigogaaDoor
open Go
theorem fLooks : Tryd.pinned.checked.prog.looks [] = false := by kernel_rfl
end Go.Proofs.YtfffocfcnigogaaDoor
