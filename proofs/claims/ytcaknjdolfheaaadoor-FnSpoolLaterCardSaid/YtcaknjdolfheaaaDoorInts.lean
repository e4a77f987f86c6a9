/- Contracts: a slice of numbers: what is left of a size, copied; two compared. -/
import Derived.Test.YtcaknjdolfheaaaDoorBasis
import Derived.Test.YtcaknjdolfheaaaDoorMails
import Derived.IntWalk
namespace Go.Proofs.YtcaknjdolfheaaaDoor
open Go Go.RowKit

/-- THE SLICE AT ao HOLDS THE NUMBERS xs. -/
def IntRow (w : World) (ao : Option Addr) (xs : List Int) : Prop :=
  ∀ k x, xs[k]? = some x → ∃ b off, ao = some ⟨b, off, none⟩ ∧ w.cell? ⟨b, off + k, none⟩ = some (.int .i64 x)
theorem IntRow.below {B : Nat} {w w' : World} {ao : Option Addr} {xs : List Int} (h : IntRow w ao xs) (hb : Below B w w') (hB : w.heap.size ≤ B) : IntRow w' ao xs := by
  intro k x hx
  obtain ⟨b, off, e, hc⟩ := h k x hx
  have hlt := World.block_lt_of_cell? w _ hc
  exact ⟨b, off, e, (hb.cell (p := ⟨b, off + k, none⟩) (Nat.lt_of_lt_of_le hlt hB)).trans hc⟩
theorem IntRow.of_own {w : World} {base : Nat} {e : TypeId} {ao : Option Addr} {cap : Nat} {xs : List Int} (h : w.ownsRow base e 1 (.slice ao xs.length cap) xs.length (xs.map (Value.int .i64))) : IntRow w ao xs := by
  intro k x hx
  obtain ⟨hk, _⟩ := List.getElem?_eq_some_iff.1 hx
  rcases h.2 with ⟨_, h0⟩ | ⟨g, c, cur, h', _⟩
  · omega
  · simp only [Value.slice.injEq, true_and] at h'
    obtain ⟨rfl, rfl⟩ := h'
    refine ⟨g, 0, rfl, ?_⟩
    rw [h.cellAt _ (by omega), Nat.zero_add, List.getElem?_map, hx]
    rfl

theorem infoInt : (Tryd.prog.info? 3).map (fun i => (i.zero, i.size, i.bytes)) = some (some (.int .i64 0), 1, 8) := by kernel_rfl

/-- A new row of the strings xs, made by the call; what lay below is as it was. -/
def IntsPost (w : World) (xs : List Int) (e : Ending) (w' : World) : Prop :=
  ∃ ao cap, e = .returned (.slice ao xs.length cap) ∧ w'.ownsRow w.heap.size 3 1 (.slice ao xs.length cap) xs.length (xs.map (Value.int .i64)) ∧ Below w.heap.size w w'

def intCells (xs : List Int) (k : Nat) : List Value := (xs.take k).map (Value.int .i64) ++ List.replicate (xs.length - k) (.int .i64 0)
theorem intCells_zero (xs : List Int) : intCells xs 0 = List.replicate xs.length (.int .i64 0) := by simp [intCells]
theorem intCells_end (xs : List Int) : intCells xs xs.length = xs.map (Value.int .i64) := by simp [intCells]
theorem intCells_get (xs : List Int) (k : Nat) (hk : k < xs.length) : (intCells xs k)[k]? = some (.int .i64 0) := by
  unfold intCells
  rw [List.getElem?_append_right (by simp; omega)]
  simp [List.getElem?_replicate]; omega
theorem intCells_set (xs : List Int) (k : Nat) (x : Int) (hx : xs[k]? = some x) : (intCells xs k).set k (.int .i64 x) = intCells xs (k + 1) := by
  obtain ⟨hk, e⟩ := List.getElem?_eq_some_iff.1 hx
  have hr : xs.length - k = (xs.length - (k + 1)) + 1 := by omega
  unfold intCells
  rw [hr, List.replicate_succ, List.take_succ_eq_append_getElem hk, List.map_append, e]
  rw [List.set_append_right _ _ (by simp; omega), List.append_assoc]
  congr 1
  rw [List.length_map, List.length_take, show k - min k xs.length = 0 by omega]
  rfl

/-- What is left of a size behind numbers. -/
def leftI (xs : List Int) (left : Int) : Int := if (xs.length : Int) ≤ left then left - xs.length else -1
end Go.Proofs.YtcaknjdolfheaaaDoor
