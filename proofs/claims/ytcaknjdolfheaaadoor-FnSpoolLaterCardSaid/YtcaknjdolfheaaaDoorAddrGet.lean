/- Contracts: AddrGet, of the model and of the program. -/
import Derived.Test.YtcaknjdolfheaaaDoorPlains
import Derived.Test.YtcaknjdolfheaaaDoorAddrs
import Derived.Deep.QuietTactic
import Derived.BigQuiet
import Derived.RegionTactic
import Derived.WalkSpells
namespace Go.Proofs.YtcaknjdolfheaaaDoor
open Go Go.RowKit

/-- Two results: an address, and whether it is one. -/
def AddrPost (w : World) (r : ByteArray × ByteArray × Bool) (e : Ending) (w' : World) : Prop :=
  e = .returned (.tuple #[.agg #[.string r.1, .string r.2.1], .bool r.2.2]) ∧ Below w.heap.size w w'

/-- A block of two cells that the call has laid, later on. -/
theorem two_cells {w w' : World} {x y : Value} {t : TypeId} (h : Below (w.heap.size + 1) (w.alloc (.cells #[x, y] t)) w') :
    w'.cell? ⟨w.heap.size, 0, none⟩ = some x ∧ w'.cell? ⟨w.heap.size, 1, none⟩ = some y ∧ w'.frozen? ⟨w.heap.size, 0, none⟩ = false ∧ w'.frozen? ⟨w.heap.size, 1, none⟩ = false := by
  have hf : ∀ j, (w.alloc (.cells #[x, y] t)).frozen? ⟨w.heap.size, j, none⟩ = false := fun j => Lib.frozen_of_heap (heap_alloc_new w _) j
  refine ⟨(h.cell (p := ⟨w.heap.size, 0, none⟩) (by simp)).trans (World.cell?_alloc_at _ _ _ _ rfl), (h.cell (p := ⟨w.heap.size, 1, none⟩) (by simp)).trans (World.cell?_alloc_at _ _ _ _ rfl),
    (h.frozen (p := ⟨w.heap.size, 0, none⟩) (by simp)).trans (hf 0), (h.frozen (p := ⟨w.heap.size, 1, none⟩) (by simp)).trans (hf 1)⟩
def TwoAt (w : World) (b : Nat) (x y : Value) : Prop := w.cell? ⟨b, 0, none⟩ = some x ∧ w.cell? ⟨b, 1, none⟩ = some y ∧ w.frozen? ⟨b, 0, none⟩ = false ∧ w.frozen? ⟨b, 1, none⟩ = false
theorem TwoAt.later {w w' : World} {b : Nat} {x y : Value} (h : TwoAt w b x y) (hb : Below w.heap.size w w') : TwoAt w' b x y := by
  have hlt : b < w.heap.size := World.block_lt_of_cell? w _ h.1
  exact ⟨(hb.cell (p := ⟨b, 0, none⟩) hlt).trans h.1, (hb.cell (p := ⟨b, 1, none⟩) hlt).trans h.2.1, (hb.frozen (p := ⟨b, 0, none⟩) hlt).trans h.2.2.1, (hb.frozen (p := ⟨b, 1, none⟩) hlt).trans h.2.2.2⟩
theorem TwoAt.new (w : World) (x y : Value) (t : TypeId) : TwoAt (w.alloc (.cells #[x, y] t)) w.heap.size x y := two_cells (Below.refl _ _)

end Go.Proofs.YtcaknjdolfheaaaDoor
