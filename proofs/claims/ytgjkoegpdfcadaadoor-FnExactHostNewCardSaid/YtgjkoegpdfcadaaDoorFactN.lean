/- A closed fact of the seat's program, proved once a seat (the kernel needs much memory for it: a text of its own). -/
import Derived.Test.YtgjkoegpdfcadaaDoorRows
import Derived.KernelRfl
import GoSem.ClaimSevenParts
namespace Go.Proofs.YtgjkoegpdfcadaaDoor
open Go
theorem fMain : Tryd.pinned.checked.prog.mainIs = some (true, ("3266b70390c8aa3d4084d3968460c2f600705b846803dcac22ab178ee3d7fdbe" : String).toList) := by kernel_rfl
end Go.Proofs.YtgjkoegpdfcadaaDoor
