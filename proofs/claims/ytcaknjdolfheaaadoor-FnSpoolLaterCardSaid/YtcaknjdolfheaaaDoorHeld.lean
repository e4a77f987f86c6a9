/- Contracts: marks written into a mail and a client's state, with what the rows hold then; and found there. -/
import Derived.Test.YtcaknjdolfheaaaDoorMarksM
namespace Go.Proofs.YtcaknjdolfheaaaDoor
open Go Go.RowKit

theorem markP_get (k n i : Nat) (h : i < n) : (markP k n)[i]? = some (markT (k + i * 2), markT (k + i * 2 + 1)) := by simp [markP, h]
theorem held_two {a1 a2 : Addr} {v1 v2 : Value} {B : Nat} {w0 w1 w2 : World} (h1 : w1.cell? a1 = some v1) (h2 : w1.cell? a2 = some v2) (hB : Below B w0 w1) (hBs : B ≤ w0.heap.size) (hb : Below w1.heap.size w1 w2) : w2.cell? a1 = some v1 ∧ w2.cell? a2 = some v2 ∧ Below B w0 w2 :=
  ⟨(hb.cell (World.block_lt_of_cell? w1 _ h1)).trans h1, (hb.cell (World.block_lt_of_cell? w1 _ h2)).trans h2, hB.trans (hb.mono (Nat.le_trans hBs hB.size))⟩

end Go.Proofs.YtcaknjdolfheaaaDoor
