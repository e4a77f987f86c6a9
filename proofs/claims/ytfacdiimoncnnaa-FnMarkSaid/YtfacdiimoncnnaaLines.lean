/- Contract: l2Lines of the model: a text cut into lines. -/
import Derived.Test.YtfacdiimoncnnaaPlainLines
import Derived.Test.YtfacdiimoncnnaaCopy
namespace Go.Proofs.Ytfacdiimoncnnaa
open Go Go.RowKit

/-- Two results: a row of the call's own, and a text. -/
def RowTextPost (w : World) (xs : List ByteArray) (t : ByteArray) (e : Ending) (w' : World) : Prop :=
  ∃ ao cap, e = .returned (.tuple #[.slice ao xs.length cap, .string t]) ∧ w'.ownsRow w.heap.size 9 1 (.slice ao xs.length cap) xs.length (xs.map Value.string) ∧ Below w.heap.size w w'

theorem below_app {B : Nat} {w wr w1 : World} {e : TypeId} {size : Nat} {v : Value} {n : Nat} {xs : List Value} {o : Obj} (hbel : Below B w wr) (hB : B ≤ wr.heap.size) (hown : wr.ownsRow B e size v n xs) (hg : (wr.alloc o).grownBy w1 v.ownBlock) : Below B w w1 :=
  (hbel.alloc hB o).grown hg (by simp; omega) (fun j hj => (hown.lt j hj).1)
theorem snoc_own {w : World} {B e : Nat} {v : Value} {D : List ByteArray} {x : ByteArray} (h : w.ownsRow B e 1 v (D.length + 1) (D.map Value.string ++ [.string x])) : w.ownsRow B e 1 v (D ++ [x]).length ((D ++ [x]).map Value.string) := by
  simpa using h
theorem shape_own {w : World} {base : Nat} {e : TypeId} {size : Nat} {v : Value} {n : Nat} {xs : List Value} (h : w.ownsRow base e size v n xs) : ∃ ao cap, v = .slice ao n cap := by
  rcases h.2 with ⟨h', rfl⟩ | ⟨g, cap, cur, h', _⟩
  · exact ⟨_, _, h'⟩
  · exact ⟨_, _, h'⟩

end Go.Proofs.Ytfacdiimoncnnaa
