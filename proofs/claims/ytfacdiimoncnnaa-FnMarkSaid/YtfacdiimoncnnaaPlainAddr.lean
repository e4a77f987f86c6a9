/- Plain facts on addresses. No program in this text. -/
import Derived.Test.YtfacdiimoncnnaaPlain
namespace Go.Proofs.Ytfacdiimoncnnaa
open Go

/-! ### addresses -/
def nullB (u d : ByteArray) : Bool := u.toList.isEmpty && d.toList.isEmpty
def addrB (u d : ByteArray) : Bool := wordB u && domB d
def wireB (u d : ByteArray) : ByteArray := { data := #[60] } ++ u ++ { data := #[64] } ++ d ++ { data := #[62] }
/-- Of an address, or of nobody's: as it is written. -/
def l1PutB (u d : ByteArray) : ByteArray := if nullB u d then { data := #[60, 62] } else wireB u d
def putB (u d : ByteArray) : ByteArray := if nullB u d then { data := #[60, 62] } else if addrB u d then wireB u d else { data := #[] }
theorem nullB_true {u d : ByteArray} (h : nullB u d = true) : u.toList = [] ∧ d.toList = [] := by
  unfold nullB at h
  simpa [List.isEmpty_iff] using h
theorem nullB_false {u d : ByteArray} (h : nullB u d = false) : ¬ u.toList = [] ∨ (u.toList = [] ∧ ¬ d.toList = []) := by
  unfold nullB at h
  by_cases hu : u.toList = []
  · right
    refine ⟨hu, fun hd => ?_⟩
    rw [hu, hd] at h; simp at h
  · exact .inl hu
/-- Nobody's address is none. -/
theorem addrB_null {u d : ByteArray} (h : nullB u d = true) : addrB u d = false := by
  have hu := (nullB_true h).1
  have : u.size = 0 := by rw [Lib.size_eq, ← Lib.toList_data, hu]; rfl
  unfold addrB
  rw [wordB_size (by omega), Bool.false_and]
def leftA (u d : ByteArray) (left : Int) : Int := if (u.size : Int) + d.size ≤ left then left - u.size - d.size else -1
end Go.Proofs.Ytfacdiimoncnnaa
