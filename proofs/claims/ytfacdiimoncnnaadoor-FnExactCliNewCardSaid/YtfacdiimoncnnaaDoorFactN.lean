/- A closed fact of the seat's program, proved once a seat (the kernel needs much memory for it: a text of its own). -/
import Derived.Test.YtfacdiimoncnnaaDoorRows
import Derived.KernelRfl
import GoSem.ClaimSevenParts
namespace Go.Proofs.YtfacdiimoncnnaaDoor
open Go
theorem fMain : Tryd.pinned.checked.prog.mainIs = some (true, ("8a5260eb7b4550348cad3b00175e0658b5a55d01568831c0c49c17cec5f608bc" : String).toList) := by kernel_rfl
end Go.Proofs.YtfacdiimoncnnaaDoor
