/- Contracts: a mail as it is written, of the model and of the program. -/
import Derived.Test.YtgniokkiejoccaaGreatDoorMails
import Derived.Test.YtgniokkiejoccaaGreatDoorPlains
import Derived.Test.YtgniokkiejoccaaGreatDoorWrites
import Derived.Test.YtgniokkiejoccaaGreatDoorAddrs
namespace Go.Proofs.YtgniokkiejoccaaGreatDoor
open Go Go.RowKit

theorem data_size (o : ByteArray) : o.data.toList.length = o.size := by simp

end Go.Proofs.YtgniokkiejoccaaGreatDoor
