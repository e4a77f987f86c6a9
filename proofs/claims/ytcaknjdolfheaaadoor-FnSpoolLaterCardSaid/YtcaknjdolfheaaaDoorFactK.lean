/- A closed fact of the seat's program, proved once a seat (the kernel needs much memory for it: a text of its own). -/
import Derived.Test.YtcaknjdolfheaaaDoorRows
import Derived.KernelRfl
import GoSem.ClaimSevenParts
namespace Go.Proofs.YtcaknjdolfheaaaDoor
open Go
theorem fLooks : Tryd.pinned.checked.prog.looks [] = false := by kernel_rfl
end Go.Proofs.YtcaknjdolfheaaaDoor
