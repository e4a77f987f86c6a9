/- A closed fact of the seat's program, proved once a seat (the kernel needs much memory for it: a text of its own). -/
import Derived.Test.YtcaknjdolfheaaaGreatDoorRows
import Derived.KernelRfl
import GoSem.ClaimSevenParts
namespace Go.Proofs.YtcaknjdolfheaaaGreatDoor
open Go
theorem fMain : Tryz.pinned.checked.prog.mainIs = some (true, ("eaffed3ab47402077faed7bbeebde78d6bcb43030fff0b94c8d46326f1ff02ad" : String).toList) := by kernel_rfl
end Go.Proofs.YtcaknjdolfheaaaGreatDoor
