/- A closed fact of the seat's program, proved once a seat (the kernel needs much memory for it: a text of its own). -/
import Derived.Test.YtgniokkiejoccaaDoorRows
import Derived.KernelRfl
import GoSem.ClaimSevenParts
namespace Go.Proofs.YtgniokkiejoccaaDoor
open Go
theorem fMain : Tryd.pinned.checked.prog.mainIs = some (true, ("9c2381ac163e3e0f84d1f008097a0a639ea18d3923da41187d5d9148ca014f71" : String).toList) := by kernel_rfl
end Go.Proofs.YtgniokkiejoccaaDoor
