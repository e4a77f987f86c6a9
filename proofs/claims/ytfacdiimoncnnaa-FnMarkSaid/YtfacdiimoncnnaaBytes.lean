/- A row of bytes. -/
import Derived.Test.YtfacdiimoncnnaaCopy
namespace Go.Proofs.Ytfacdiimoncnnaa
open Go Go.RowKit

/-- The slice holds n bytes. -/
def ByteRow (w : World) (ao : Option Addr) (n : Nat) : Prop :=
  ∀ j, j < n → ∃ (b off z : Nat), ao = some ⟨b, off, none⟩ ∧ z ≤ 255 ∧ w.cell? ⟨b, off + j, none⟩ = some (.int .u8 (z : Int))
theorem ByteRow.below {B : Nat} {w w' : World} {ao : Option Addr} {n : Nat} (h : ByteRow w ao n) (hb : Below B w w') (hB : w.heap.size ≤ B) : ByteRow w' ao n := by
  intro k hk
  obtain ⟨b, off, z, e, hz, hc⟩ := h k hk
  have hlt := World.block_lt_of_cell? w _ hc
  exact ⟨b, off, z, e, hz, (hb.cell (p := ⟨b, off + k, none⟩) (Nat.lt_of_lt_of_le hlt hB)).trans hc⟩
theorem ByteRow.lt {w : World} {ao : Option Addr} {n : Nat} (h : ByteRow w ao n) : ∀ a, n ≠ 0 → ao = some a → a.block < w.heap.size := by
  intro a hn e
  obtain ⟨b, off, z, e2, _, hc⟩ := h 0 (by omega)
  rw [e2] at e
  cases e
  exact World.block_lt_of_cell? w _ hc
/-- Behind what is written elsewhere. -/
theorem ByteRow.kept {B : Nat} {w w' : World} {ao : Option Addr} {n : Nat} (h : ByteRow w ao n) (hb : Below B w w') (hB : ∀ a, n ≠ 0 → ao = some a → a.block < B) : ByteRow w' ao n := by
  intro k hk
  obtain ⟨b, off, z, e, hz, hc⟩ := h k hk
  exact ⟨b, off, z, e, hz, (hb.cell (p := ⟨b, off + k, none⟩) (hB ⟨b, off, none⟩ (by omega) e)).trans hc⟩
theorem ByteRow.take {w : World} {ao : Option Addr} {n m : Nat} (h : ByteRow w ao n) (hm : m ≤ n) : ByteRow w ao m := fun j hj => h j (by omega)
end Go.Proofs.Ytfacdiimoncnnaa
