/- Contracts: a mail as it is written, of the model and of the program. -/
import Derived.Test.YtgniokkiejoccaaDoorMails
import Derived.Test.YtgniokkiejoccaaDoorPlains
import Derived.Test.YtgniokkiejoccaaDoorWrites
import Derived.Test.YtgniokkiejoccaaDoorAddrs
namespace Go.Proofs.YtgniokkiejoccaaDoor
open Go Go.RowKit

theorem data_size (o : ByteArray) : o.data.toList.length = o.size := by simp

end Go.Proofs.YtgniokkiejoccaaDoor
