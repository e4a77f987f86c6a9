/- A closed fact of the seat's program, proved once a seat (the kernel needs much memory for it: a text of its own). -/
import Derived.Test.YtecjifbckjclfaaDoorRows
import Derived.KernelRfl
import GoSem.ClaimSevenParts
namespace Go.Proofs.YtecjifbckjclfaaDoor
open Go
theorem fMain : Tryd.pinned.checked.prog.mainIs = some (true, ("4b0096d366cdb13be76950702da0764616526dab8b98ca2fa96f898231cd5b99" : String).toList) := by kernel_rfl
end Go.Proofs.YtecjifbckjclfaaDoor
