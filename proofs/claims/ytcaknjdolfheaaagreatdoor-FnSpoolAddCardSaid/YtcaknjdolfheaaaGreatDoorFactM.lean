/- A closed fact of the seat's program, proved once a seat (the kernel needs much memory for it: a text of its own). -/
import Derived.Test.YtcaknjdolfheaaaGreatDoorRows
import Derived.KernelRfl
import GoSem.ClaimSevenParts
namespace Go.Proofs.YtcaknjdolfheaaaGreatDoor
open Go
theorem fMake : Tryz.pinned.checked.prog.make = some .cut := by kernel_rfl
end Go.Proofs.YtcaknjdolfheaaaGreatDoor
