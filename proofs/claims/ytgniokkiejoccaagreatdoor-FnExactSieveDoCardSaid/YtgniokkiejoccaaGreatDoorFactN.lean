/- A closed fact of the seat's program, proved once a seat (the kernel needs much memory for it: a text of its own). -/
import Derived.Test.YtgniokkiejoccaaGreatDoorRows
import Derived.KernelRfl
import GoSem.ClaimSevenParts
namespace Go.Proofs.YtgniokkiejoccaaGreatDoor
open Go
theorem fMain : Tryz.pinned.checked.prog.mainIs = some (true, ("29124245ef43090eedb9b45c50e8b4a7978c1e62434739760604881d67548592" : String).toList) := by kernel_rfl
end Go.Proofs.YtgniokkiejoccaaGreatDoor
