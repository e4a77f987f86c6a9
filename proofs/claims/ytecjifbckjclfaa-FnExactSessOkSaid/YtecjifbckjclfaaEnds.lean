/- Contracts: a domain within another. -/
import Derived.Test.YtecjifbckjclfaaCut
import Derived.WalkSpells
import Derived.WalkLawsBesides
namespace Go.Proofs.Ytecjifbckjclfaa
open Go Go.RowKit

/-- bytealg.MaxLen holds an int. -/
def HasMax (w : World) : Prop := ∃ m : Int, w.cell? ⟨0, 0, none⟩ = some (.int .i64 m)
theorem HasMax.below {B : Nat} {w w' : World} (h : HasMax w) (hb : Below B w w') (hB : w.heap.size ≤ B) : HasMax w' := by
  obtain ⟨m, hm⟩ := h
  have := World.block_lt_of_cell? w _ hm
  exact ⟨m, (hb.cell (p := ⟨0, 0, none⟩) (by simp at this ⊢; omega)).trans hm⟩

end Go.Proofs.Ytecjifbckjclfaa
