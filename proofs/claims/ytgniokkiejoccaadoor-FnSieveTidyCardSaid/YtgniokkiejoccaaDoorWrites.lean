/- Build, Dots, DotPut. -/
import Derived.Test.YtgniokkiejoccaaDoorProg
import Derived.Lib.Builder
import Derived.Lib.AppendStr
import Derived.Lib.UnsafeStr
import Derived.Laws.Externs
import Derived.Lib.Hide
import Derived.Outline
import Derived.WalkKit
import Derived.RegionTactic
import Derived.Test.YtgniokkiejoccaaDoorPlains
import Derived.Test.YtgniokkiejoccaaDoorBasis
import Derived.Test.YtgniokkiejoccaaDoorShelf
namespace Go.Proofs.YtgniokkiejoccaaDoor
open Go Go.RowKit

theorem infoByte : (Tryd.prog.info? 5).map (fun i => (i.zero, i.size, i.bytes)) = some (some (.int .u8 0), 1, 1) := by kernel_rfl
theorem cellsByte : Tryd.prog.cellsOf 5 = 1 := by kernel_rfl

end Go.Proofs.YtgniokkiejoccaaDoor
namespace Go.Proofs.YtgniokkiejoccaaDoor
open Go Go.RowKit

theorem ret_st {a b : ByteArray} (h : a = b) : Ending.returned (.string a) = .returned (.string b) := by rw [h]

end Go.Proofs.YtgniokkiejoccaaDoor
namespace Go.Proofs.YtgniokkiejoccaaDoor
open Go Go.RowKit

theorem bodyB_bounds {xs : List ByteArray} (h : bodyB xs = true) : xs.length ≤ 12 ∧ ∀ x ∈ xs, x.size ≤ 40 := by
  unfold bodyB at h
  rw [Bool.and_eq_true, List.all_eq_true, decide_eq_true_eq] at h
  refine ⟨h.2, fun x hx => ?_⟩
  have := h.1 x hx
  unfold lineB at this
  rw [Bool.and_eq_true, decide_eq_true_eq] at this
  exact this.2
def dotPutB (xs : List ByteArray) : ByteArray := if bodyB xs then ⟨(dotsAll xs).toArray⟩ else { data := #[] }

theorem StrRow.lt {w : World} {ao : Option Addr} {xs : List ByteArray} (h : StrRow w ao xs) : ∀ a, xs ≠ [] → ao = some a → a.block < w.heap.size := by
  intro a hne e
  cases xs with
  | nil => exact absurd rfl hne
  | cons x l =>
    obtain ⟨b, off, e2, hc⟩ := h 0 x rfl
    rw [e] at e2
    injection e2 with e2
    rw [e2]
    exact World.block_lt_of_cell? w _ hc

theorem dotsAll_ne (xs : List ByteArray) : dotsAll xs ≠ [] := by unfold dotsAll; simp

end Go.Proofs.YtgniokkiejoccaaDoor
