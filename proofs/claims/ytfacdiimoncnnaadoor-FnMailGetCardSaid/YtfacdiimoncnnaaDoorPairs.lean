/- Slices of structs of two strings (addresses, ways): what they read as, their sizes, copies and comparisons. -/
import Derived.Test.YtfacdiimoncnnaaDoorBasis
import Derived.Test.YtfacdiimoncnnaaDoorAddrs
namespace Go.Proofs.YtfacdiimoncnnaaDoor
open Go Go.RowKit

abbrev Pair := ByteArray × ByteArray
/-- THE SLICE VALUE '.slice ao ps.length cap' READS AS THE PAIRS ps. -/
def PairRow (w : World) (ao : Option Addr) (ps : List Pair) : Prop :=
  ∀ k p, ps[k]? = some p → ∃ b off, ao = some ⟨b, off, none⟩ ∧ w.cell? ⟨b, off + k * 2, none⟩ = some (.string p.1) ∧ w.cell? ⟨b, off + k * 2 + 1, none⟩ = some (.string p.2)
theorem PairRow.below {B : Nat} {w w' : World} {ao : Option Addr} {ps : List Pair} (h : PairRow w ao ps) (hb : Below B w w') (hB : w.heap.size ≤ B) : PairRow w' ao ps := by
  intro k p hp
  obtain ⟨b, off, e, h1, h2⟩ := h k p hp
  have hlt := World.block_lt_of_cell? w _ h1
  exact ⟨b, off, e, (hb.cell (p := ⟨b, off + k * 2, none⟩) (Nat.lt_of_lt_of_le hlt hB)).trans h1, (hb.cell (p := ⟨b, off + k * 2 + 1, none⟩) (Nat.lt_of_lt_of_le hlt hB)).trans h2⟩
theorem PairRow.later {w w' : World} {ao : Option Addr} {ps : List Pair} (h : PairRow w ao ps) (hb : Below w.heap.size w w') : PairRow w' ao ps := h.below hb (Nat.le_refl _)

def pairCells (ps : List Pair) : List Value := ps.flatMap fun p => [.string p.1, .string p.2]
theorem pairCells_length (ps : List Pair) : (pairCells ps).length = ps.length * 2 := by
  induction ps with
  | nil => rfl
  | cons p ps ih => simp only [pairCells, List.flatMap_cons, List.length_append, List.length_cons, List.length_nil] at ih ⊢; omega
theorem pairCells_get {ps : List Pair} {k : Nat} {p : Pair} (h : ps[k]? = some p) : (pairCells ps)[k * 2]? = some (.string p.1) ∧ (pairCells ps)[k * 2 + 1]? = some (.string p.2) := by
  induction ps generalizing k with
  | nil => cases h
  | cons q ps ih =>
    cases k with
    | zero => cases h; exact ⟨rfl, rfl⟩
    | succ k =>
      have := ih h
      rw [show (k + 1) * 2 = k * 2 + 1 + 1 by omega]
      exact this
/-- A row of pairs of the call's own. -/
def PRow (w : World) (B : Nat) (t : TypeId) (ao : Option Addr) (cap : Nat) (ps : List Pair) : Prop := w.ownsRow B t 2 (.slice ao ps.length cap) ps.length (pairCells ps)
theorem PRow.pairs {w : World} {B : Nat} {t : TypeId} {ao : Option Addr} {cap : Nat} {ps : List Pair} (h : PRow w B t ao cap ps) : PairRow w ao ps := by
  intro k p hp
  obtain ⟨hk, _⟩ := List.getElem?_eq_some_iff.1 hp
  obtain ⟨g1, g2⟩ := pairCells_get hp
  unfold PRow at h
  rcases h.2 with ⟨_, h0⟩ | ⟨g, c, cur, h', _⟩
  · omega
  · simp only [Value.slice.injEq, true_and] at h'
    obtain ⟨rfl, rfl⟩ := h'
    refine ⟨g, 0, rfl, ?_, ?_⟩
    · rw [Nat.zero_add, h.cellAt _ (by omega)]; exact g1
    · rw [Nat.zero_add, h.cellAt _ (by omega)]; exact g2
theorem PRow.later {w w' : World} {B : Nat} {t : TypeId} {ao : Option Addr} {cap : Nat} {ps : List Pair} (h : PRow w B t ao cap ps) (hb : Below w.heap.size w w') : PRow w' B t ao cap ps := own_later h hb
theorem PRow.lt {w : World} {B : Nat} {t : TypeId} {ao : Option Addr} {cap : Nat} {ps : List Pair} (h : PRow w B t ao cap ps) {k : Nat} (hk : blockOf ao = some k) : B ≤ k ∧ k < w.heap.size :=
  World.ownsRow.lt h k (by rw [own_block]; exact hk)
theorem PRow.other {w w' : World} {B : Nat} {t : TypeId} {ao bo : Option Addr} {cap : Nat} {ps : List Pair} (h : PRow w B t ao cap ps) (hg : w.grownBy w' (blockOf bo)) (hne : blockOf ao = none ∨ blockOf ao ≠ blockOf bo) : PRow w' B t ao cap ps :=
  World.ownsRow.kept h hg (by rw [own_block]; exact hne)

def sumP (ps : List Pair) : Nat := (ps.map fun p => p.1.size + p.2.size).sum
theorem sumP_snoc {ps : List Pair} {k : Nat} {p : Pair} (hp : ps[k]? = some p) : sumP (ps.take (k + 1)) = sumP (ps.take k) + (p.1.size + p.2.size) := by
  obtain ⟨hk, e⟩ := List.getElem?_eq_some_iff.1 hp
  unfold sumP
  rw [List.take_succ_eq_append_getElem hk, List.map_append, List.sum_append, e]
  simp
theorem sumP_take_le (ps : List Pair) (k : Nat) : sumP (ps.take k) ≤ sumP ps := by
  have : sumP ps = sumP (ps.take k) + sumP (ps.drop k) := by
    unfold sumP; rw [← List.sum_append, ← List.map_append, List.take_append_drop]
  omega
theorem sumP_mem {ps : List Pair} {p : Pair} (h : p ∈ ps) : p.1.size + p.2.size ≤ sumP ps := by
  induction ps with
  | nil => cases h
  | cons y ys ih =>
    unfold sumP at ih ⊢
    rw [List.map_cons, List.sum_cons]
    rcases List.mem_cons.1 h with rfl | h
    · omega
    · have := ih h; omega
/-- sz..S: what is left. -/
def leftP (ps : List Pair) (left : Int) : Int := if (ps.length : Int) + sumP ps ≤ left then left - ps.length - sumP ps else -1
theorem leftP_le {ps : List Pair} {left : Int} (h : 0 ≤ left) : leftP ps left ≤ left := by unfold leftP; split <;> omega
theorem leftP_small {ps : List Pair} {left : Int} (h : ¬ leftP ps left < 0) (h1 : left ≤ 1048576) : ps.length ≤ 1048576 ∧ ∀ p ∈ ps, p.1.size ≤ 1048576 ∧ p.2.size ≤ 1048576 := by
  unfold leftP at h
  split at h
  · refine ⟨by omega, fun x hx => ?_⟩
    have := sumP_mem hx
    omega
  · exact absurd (show (-1 : Int) < 0 by decide) h

/-- The first k pairs are written, the others are empty. -/
def pairRowCells (ps : List Pair) (k : Nat) : List Value := pairCells (ps.take k) ++ List.replicate ((ps.length - k) * 2) (.string ByteArray.empty)
theorem pairRowCells_zero (ps : List Pair) : pairRowCells ps 0 = List.replicate (ps.length * 2) (.string ByteArray.empty) := by simp [pairRowCells, pairCells]
theorem pairRowCells_end (ps : List Pair) : pairRowCells ps ps.length = pairCells ps := by simp [pairRowCells]
theorem pairRowCells_get (ps : List Pair) (k : Nat) (hk : k < ps.length) : (pairRowCells ps k)[k * 2]? = some (.string ByteArray.empty) ∧ (pairRowCells ps k)[k * 2 + 1]? = some (.string ByteArray.empty) := by
  unfold pairRowCells
  have hl : (pairCells (ps.take k)).length = k * 2 := by rw [pairCells_length, List.length_take]; omega
  constructor
  · rw [List.getElem?_append_right (by omega), List.getElem?_replicate, if_pos (by omega)]
  · rw [List.getElem?_append_right (by omega), List.getElem?_replicate, if_pos (by omega)]
theorem pairRowCells_set (ps : List Pair) (k : Nat) (p : Pair) (hp : ps[k]? = some p) : ((pairRowCells ps k).set (k * 2) (.string p.1)).set (k * 2 + 1) (.string p.2) = pairRowCells ps (k + 1) := by
  obtain ⟨hk, e⟩ := List.getElem?_eq_some_iff.1 hp
  have hl : (pairCells (ps.take k)).length = k * 2 := by rw [pairCells_length, List.length_take]; omega
  have hr : (ps.length - k) * 2 = (ps.length - (k + 1)) * 2 + 1 + 1 := by omega
  unfold pairRowCells
  rw [hr, List.replicate_succ, List.replicate_succ, List.take_succ_eq_append_getElem hk, e]
  rw [List.set_append_right _ _ (by omega), hl, Nat.sub_self, List.set_cons_zero, List.set_append_right _ _ (by omega), hl, show k * 2 + 1 - k * 2 = 1 by omega, List.set_cons_succ, List.set_cons_zero]
  simp [pairCells]
theorem ba_ext {a b : ByteArray} (h : a.toList = b.toList) : a = b := by
  rw [Lib.toList_data, Lib.toList_data] at h
  exact ByteArray.ext (Array.ext' h)
theorem pair_ne {p q : Pair} (h : q ≠ p) : ¬ q.1.toList = p.1.toList ∨ (q.1.toList = p.1.toList ∧ ¬ q.2.toList = p.2.toList) := by
  by_cases h1 : q.1.toList = p.1.toList
  · exact .inr ⟨h1, fun h2 => h (Prod.ext (ba_ext h1) (ba_ext h2))⟩
  · exact .inl h1
theorem made_two (n : Nat) : (madeCells (Value.agg #[.string ByteArray.empty, .string ByteArray.empty]).cells (n * 2)).toList = List.replicate (n * 2) (.string ByteArray.empty) := by
  apply List.ext_getElem?
  intro j
  by_cases hj : j < n * 2
  · rcases Nat.mod_two_eq_zero_or_one j with h | h <;> simp [madeCells, hj, h, Value.cells]
  · simp [madeCells, hj]
theorem held4 {a1 a2 a3 a4 : Addr} {v1 v2 v3 v4 : Value} {B : Nat} {w0 w1 w2 : World} (h1 : w1.cell? a1 = some v1) (h2 : w1.cell? a2 = some v2) (h3 : w1.cell? a3 = some v3) (h4 : w1.cell? a4 = some v4) (hB : Below B w0 w1) (hBs : B ≤ w0.heap.size) (hb : Below w1.heap.size w1 w2) :
    w2.cell? a1 = some v1 ∧ w2.cell? a2 = some v2 ∧ w2.cell? a3 = some v3 ∧ w2.cell? a4 = some v4 ∧ Below B w0 w2 :=
  ⟨(hb.cell (World.block_lt_of_cell? w1 _ h1)).trans h1, (hb.cell (World.block_lt_of_cell? w1 _ h2)).trans h2, (hb.cell (World.block_lt_of_cell? w1 _ h3)).trans h3, (hb.cell (World.block_lt_of_cell? w1 _ h4)).trans h4, hB.trans (hb.mono (Nat.le_trans hBs hB.size))⟩
end Go.Proofs.YtfacdiimoncnnaaDoor
