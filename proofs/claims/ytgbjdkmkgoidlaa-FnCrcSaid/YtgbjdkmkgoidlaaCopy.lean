/- Contracts: a slice of strings copied; two compared. -/
import Derived.Test.YtgbjdkmkgoidlaaBody
namespace Go.Proofs.Ytgbjdkmkgoidlaa
open Go Go.RowKit

theorem infoS : (Try.prog.info? 9).map (fun i => (i.zero, i.size, i.bytes)) = some (some (.string ByteArray.empty), 1, 16) := by kernel_rfl

/-- A new row of the strings xs, made by the call; what lay below is as it was. -/
def RowsPost (w : World) (xs : List ByteArray) (e : Ending) (w' : World) : Prop :=
  ∃ ao cap, e = .returned (.slice ao xs.length cap) ∧ w'.ownsRow w.heap.size 9 1 (.slice ao xs.length cap) xs.length (xs.map Value.string) ∧ Below w.heap.size w w'

def rowCells (xs : List ByteArray) (k : Nat) : List Value := (xs.take k).map Value.string ++ List.replicate (xs.length - k) (.string ByteArray.empty)
theorem rowCells_zero (xs : List ByteArray) : rowCells xs 0 = List.replicate xs.length (.string ByteArray.empty) := by simp [rowCells]
theorem rowCells_end (xs : List ByteArray) : rowCells xs xs.length = xs.map Value.string := by simp [rowCells]
theorem rowCells_get (xs : List ByteArray) (k : Nat) (hk : k < xs.length) : (rowCells xs k)[k]? = some (.string ByteArray.empty) := by
  unfold rowCells
  rw [List.getElem?_append_right (by simp; omega)]
  simp [List.getElem?_replicate]; omega
theorem rowCells_set (xs : List ByteArray) (k : Nat) (x : ByteArray) (hx : xs[k]? = some x) : (rowCells xs k).set k (.string x) = rowCells xs (k + 1) := by
  obtain ⟨hk, e⟩ := List.getElem?_eq_some_iff.1 hx
  have hr : xs.length - k = (xs.length - (k + 1)) + 1 := by omega
  unfold rowCells
  rw [hr, List.replicate_succ, List.take_succ_eq_append_getElem hk, List.map_append, e]
  rw [List.set_append_right _ _ (by simp; omega), List.append_assoc]
  congr 1
  rw [List.length_map, List.length_take, show k - min k xs.length = 0 by omega]
  rfl

end Go.Proofs.Ytgbjdkmkgoidlaa
