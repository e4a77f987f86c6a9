/- What the frames of this seat's laws share: the witness's world, the listed variables as the program lays them, the cell of bytealg.MaxLen. -/
import Derived.Test.YtcaknjdolfheaaaGreatDoorCards
import Derived.Test.YtcaknjdolfheaaaGreatDoorTie
import Derived.WalkKit
import Derived.ProofKit
import Derived.OpenShut
import Derived.ShutString
import Derived.ChangeOld
import Derived.Below
import Derived.SliceStrings
import Derived.Deep.DeepHandedRow
import Derived.Lib.LaidTab
import Derived.Test.YtcaknjdolfheaaaGreatDoorShelf
namespace Go.Proofs.YtcaknjdolfheaaaGreatDoor
open Go.ChangeShapes Go.WideShapes Go.ChangeAt Go.RowKit

theorem own : ownKnob Tryz.prog.godebug = none := by kernel_rfl
theorem laidOut : laidOutB Tryz.prog = true := by kernel_rfl

def cells0 : DataW Unit → List Value
  | .lit (.int k n) => [.int k n]
  | _ => []
def cells1 : DataW Unit → List Value
  | .agg ps => ps.flatMap cells0
  | d => cells0 d
def cells2 : DataW Unit → List Value
  | .agg ps => ps.flatMap cells1
  | d => cells0 d


def filled (cs : List Value) : Obj → Obj
  | .cells _ t frozen => .cells cs.toArray t frozen
  | o => o

/-- A WORLD FOR THE WITNESS: the settled one, the two tables holding what is laid. -/
noncomputable def laidWorld (os : Os) : World :=
  { World.holding Tryz.prog os ⟨#[], #[], []⟩ with heap := ((World.holding Tryz.prog os ⟨#[], #[], []⟩).heap.modify 4 (filled (cells2 Rows.laid_unicode_utf8_first))).modify 5 (filled (cells2 Rows.laid_unicode_utf8_acceptRanges)) }

/-- bytealg.MaxLen's cell holds an int, in every world of the program's shape. -/
theorem maxLen_cell (w : World) (h : w.ShapedOpen Tryz.prog) : ∃ m : Int, w.cell? ⟨0, 0, none⟩ = some (.int .i64 m) := Tryz.laysM219.s1_3 w h
end Go.Proofs.YtcaknjdolfheaaaGreatDoor
