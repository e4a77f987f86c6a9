/- Contracts: whether a client's state is ok, of the model and of the program. -/
import Derived.Test.YtcaknjdolfheaaaGreatDoorCliFns
import Derived.Test.YtcaknjdolfheaaaGreatDoorAddrs
namespace Go.Proofs.YtcaknjdolfheaaaGreatDoor
open Go Go.RowKit

def outB (x : Int) : Bool := inB x 0 4
def outcB (xs : List Int) : Bool := xs.all outB
def cliB (c : CliD) : Bool := outcB c.outs && (mailB c.m && (domB c.nm && (decide (c.outs.length = c.m.rc.length) && (inB c.st 0 7 && (inB c.pos 0 c.m.rc.length && (c.st != 3 || decide (0 < c.pos)))))))
theorem outsB_miss {xs : List Int} {k : Nat} {x : Int} (hx : xs[k]? = some x) (h : outB x = false) : outcB xs = false := list_all_miss hx h
theorem outsB_end {xs : List Int} {k : Nat} (hk : xs.length ≤ k) (h : (xs.take k).all outB = true) : outcB xs = true := by
  rwa [List.take_of_length_le hk] at h

end Go.Proofs.YtcaknjdolfheaaaGreatDoor
