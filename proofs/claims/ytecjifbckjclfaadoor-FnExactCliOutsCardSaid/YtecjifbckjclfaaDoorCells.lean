/- The cells of a local value in a block of its own: read, written, carried on. -/
import Derived.Test.YtecjifbckjclfaaDoorProg
import Derived.WalkKit
import Derived.Below
import Derived.Laws.AppendOwn
namespace Go.Proofs.YtecjifbckjclfaaDoor
open Go Go.RowKit

/-- Block k holds xs, and may be written. -/
structure CellsM (w : World) (k : Nat) (xs : List Value) : Prop where
  c : ∀ (j : Nat) (v : Value), xs[j]? = some v → w.cell? ⟨k, j, none⟩ = some v
  f : ∀ (j : Nat), j < xs.length → w.frozen? ⟨k, j, none⟩ = false
  lt : k < w.heap.size
theorem CellsM.new (w : World) (cs : Array Value) (t : TypeId) : CellsM (w.alloc (.cells cs t)) w.heap.size cs.toList :=
  ⟨fun j v h => by rw [World.cell?_alloc_new, ← Array.getElem?_toList]; exact h, fun j _ => by simp [go_sem], by simp⟩
theorem CellsM.later {w w' : World} {k : Nat} {xs : List Value} (h : CellsM w k xs) (hb : Below w.heap.size w w') : CellsM w' k xs :=
  ⟨fun j v e => (hb.cell (p := ⟨k, j, none⟩) h.lt).trans (h.c j v e), fun j e => (hb.frozen (p := ⟨k, j, none⟩) h.lt).trans (h.f j e), Nat.lt_of_lt_of_le h.lt hb.size⟩
theorem CellsM.more {w : World} {k : Nat} {xs : List Value} (h : CellsM w k xs) (o : Obj) : CellsM (w.alloc o) k xs := h.later ((Below.refl _ _).alloc (Nat.le_refl _) o)
theorem CellsM.kept {w w' : World} {r : Option Nat} {k : Nat} {xs : List Value} (h : CellsM w k xs) (hg : w.grownBy w' r) (hne : r ≠ some k) : CellsM w' k xs :=
  have hk := hg.block k h.lt (fun e => hne e.symm)
  ⟨fun j v e => (World.cell?_of_block (a := ⟨k, j, none⟩) hk).trans (h.c j v e), fun j e => (World.frozen?_of_block (a := ⟨k, j, none⟩) hk).trans (h.f j e), Nat.lt_of_lt_of_le h.lt hg.size⟩
theorem CellsM.far {w : World} {k k' j : Nat} {xs : List Value} (h : CellsM w k xs) (v : Value) (hne : k' ≠ k) : CellsM (w.setCell ⟨k', j, none⟩ v) k xs :=
  ⟨fun i u e => (World.cell?_setCell_other _ _ _ _ (fun q => hne (congrArg Addr.block q))).trans (h.c i u e), fun i e => by simpa using h.f i e, by simpa using h.lt⟩
theorem CellsM.set {w : World} {k : Nat} {xs : List Value} (h : CellsM w k xs) (j : Nat) (v : Value) (hj : j < xs.length) : CellsM (w.setCell ⟨k, j, none⟩ v) k (xs.set j v) := by
  obtain ⟨x, hx⟩ : ∃ x, xs[j]? = some x := ⟨_, List.getElem?_eq_getElem hj⟩
  refine ⟨fun i u e => ?_, fun i e => by simpa using h.f i (by simpa using e), by simpa using h.lt⟩
  by_cases hij : i = j
  · subst hij
    rw [List.getElem?_set_self hj] at e
    rw [← Option.some.inj e]
    exact World.cell?_setCell_same _ _ _ (h.c i x hx)
  · rw [List.getElem?_set_ne (Ne.symm hij)] at e
    exact (World.cell?_setCell_other _ _ _ _ (fun q => hij (congrArg Addr.off q).symm)).trans (h.c i u e)
end Go.Proofs.YtecjifbckjclfaaDoor
