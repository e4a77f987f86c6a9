/- Contracts: addresses: whether one is ok, how it is written, copied, compared. -/
import Derived.Test.YtfacdiimoncnnaaEnds
import Derived.Test.YtfacdiimoncnnaaPlainAddr
namespace Go.Proofs.Ytfacdiimoncnnaa
open Go Go.RowKit

theorem ret_s {a b : ByteArray} (h : a = b) : Ending.returned (.string a) = .returned (.string b) := by rw [h]
theorem ret_i {a b : Int} (h : a = b) : Ending.returned (.int .i64 a) = .returned (.int .i64 b) := by rw [h]

end Go.Proofs.Ytfacdiimoncnnaa
