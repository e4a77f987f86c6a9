/- A closed fact of the seat's program, proved once a seat (the kernel needs much memory for it: a text of its own). -/
import Derived.Test.YtcaknjdolfheaaaDoorRows
import Derived.KernelRfl
import GoSem.ClaimSevenParts
namespace Go.Proofs.YtcaknjdolfheaaaDoor
open Go
theorem fMain : Tryd.pinned.checked.prog.mainIs = some (true, ("935dcf33c18d1398f572aaccb25d1687f27ea907b0b7761bfc76844771773e7f" : String).toList) := by kernel_rfl
end Go.Proofs.YtcaknjdolfheaaaDoor
