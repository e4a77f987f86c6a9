/- A closed fact of the seat's program, proved once a seat (the kernel needs much memory for it: a text of its own). -/
import Derived.Test.YtmigcglcacpboaaDoorRows
import Derived.KernelRfl
import GoSem.ClaimSevenParts
namespace Go.Proofs.YtmigcglcacpboaaDoor
open Go
theorem fMain : Tryd.pinned.checked.prog.mainIs = some (true, ("b45c0b69a967e6d5d00079dcf5523e5ccc95e3e329df03bc106f326188c3272e" : String).toList) := by kernel_rfl
end Go.Proofs.YtmigcglcacpboaaDoor
