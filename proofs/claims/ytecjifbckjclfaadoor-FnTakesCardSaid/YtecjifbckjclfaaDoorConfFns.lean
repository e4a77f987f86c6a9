/- Contracts: the laws' helpers on configurations: what is left of a size, copies, comparisons. -/
import Derived.Test.YtecjifbckjclfaaDoorConfOkI
namespace Go.Proofs.YtecjifbckjclfaaDoor
open Go Go.RowKit

/-- Three cells of the call's own, in block k, that may be written. -/
structure ThreeM (w : World) (k : Nat) (x0 x1 x2 : Value) : Prop where
  at' : ThreeAt w k x0 x1 x2
  f0 : w.frozen? ⟨k, 0, none⟩ = false
  f1 : w.frozen? ⟨k, 1, none⟩ = false
  f2 : w.frozen? ⟨k, 2, none⟩ = false
theorem ThreeM.cells {w : World} {k : Nat} {x0 x1 x2 : Value} (h : ThreeM w k x0 x1 x2) : (w.cell? ⟨k, 0, none⟩ = some x0 ∧ w.cell? ⟨k, 1, none⟩ = some x1 ∧ w.cell? ⟨k, 2, none⟩ = some x2) ∧ (w.frozen? ⟨k, 0, none⟩ = false ∧ w.frozen? ⟨k, 1, none⟩ = false ∧ w.frozen? ⟨k, 2, none⟩ = false) := ⟨h.at'.cells, h.f0, h.f1, h.f2⟩
theorem ThreeM.lt {w : World} {k : Nat} {x0 x1 x2 : Value} (h : ThreeM w k x0 x1 x2) : k < w.heap.size := World.block_lt_of_cell? w _ h.at'.c0
theorem ThreeM.later {w w' : World} {k : Nat} {x0 x1 x2 : Value} (h : ThreeM w k x0 x1 x2) (hb : Below w.heap.size w w') : ThreeM w' k x0 x1 x2 :=
  ⟨h.at'.later hb, (hb.frozen (p := ⟨k, 0, none⟩) h.lt).trans h.f0, (hb.frozen (p := ⟨k, 1, none⟩) h.lt).trans h.f1, (hb.frozen (p := ⟨k, 2, none⟩) h.lt).trans h.f2⟩
theorem ThreeM.new (w : World) (x0 x1 x2 : Value) (t : TypeId) : ThreeM (w.alloc (.cells #[x0, x1, x2] t)) w.heap.size x0 x1 x2 :=
  ⟨ThreeAt.new w x0 x1 x2 t, by simp [go_sem], by simp [go_sem], by simp [go_sem]⟩
theorem ThreeM.set0 {w : World} {k : Nat} {x0 x1 x2 : Value} (h : ThreeM w k x0 x1 x2) (v : Value) : ThreeM (w.setCell ⟨k, 0, none⟩ v) k v x1 x2 :=
  ⟨⟨World.cell?_setCell_same _ _ _ h.at'.c0, (World.cell?_setCell_other _ _ _ _ (by simp)).trans h.at'.c1, (World.cell?_setCell_other _ _ _ _ (by simp)).trans h.at'.c2⟩, by simpa using h.f0, by simpa using h.f1, by simpa using h.f2⟩
theorem ThreeM.set1 {w : World} {k : Nat} {x0 x1 x2 : Value} (h : ThreeM w k x0 x1 x2) (v : Value) : ThreeM (w.setCell ⟨k, 1, none⟩ v) k x0 v x2 :=
  ⟨⟨(World.cell?_setCell_other _ _ _ _ (by simp)).trans h.at'.c0, World.cell?_setCell_same _ _ _ h.at'.c1, (World.cell?_setCell_other _ _ _ _ (by simp)).trans h.at'.c2⟩, by simpa using h.f0, by simpa using h.f1, by simpa using h.f2⟩
theorem ThreeM.far {w : World} {k k' j : Nat} {x0 x1 x2 : Value} (h : ThreeM w k x0 x1 x2) (v : Value) (hne : k' ≠ k) : ThreeM (w.setCell ⟨k', j, none⟩ v) k x0 x1 x2 := by
  obtain ⟨h1, f0, f1, f2⟩ := h
  exact ⟨h1.far v hne, by simpa using f0, by simpa using f1, by simpa using f2⟩

/-- What is left of a size behind a configuration. -/
def leftC (c : ConfD) (left : Int) : Int :=
  if left - c.name.size < 0 then -1 else if leftB c.own (left - c.name.size) < 0 then -1 else leftP c.ways (leftB c.own (left - c.name.size))
theorem leftC_small {c : ConfD} {left : Int} (h : ¬ leftC c left < 0) (h0 : 0 ≤ left) (h1 : left ≤ 1048576) : ConfSz 1048576 c := by
  unfold leftC at h
  split at h
  · exact absurd (show (-1 : Int) < 0 by decide) h
  · rename_i hA
    split at h
    · exact absurd (show (-1 : Int) < 0 by decide) h
    · rename_i hB
      have lB := leftB_le c.own (left := left - c.name.size) (by omega)
      obtain ⟨b1, b2⟩ := leftB_small2 hB (by omega)
      obtain ⟨p1, p2⟩ := leftP_small h (by omega)
      exact ⟨by omega, b1, b2, p1, p2⟩

/-- A configuration of the call's own. -/
structure ConfOwn (w : World) (B : Nat) (c : ConfD) (a1 : Option Addr) (c1 : Nat) (a2 : Option Addr) (c2 : Nat) : Prop where
  own : Row w B a1 c1 c.own
  ways : PRow w B 55 a2 c2 c.ways
  ne : (blockOf a2 = none ∨ blockOf a2 ≠ blockOf a1) ∧ (blockOf a1 = none ∨ blockOf a1 ≠ blockOf a2)
theorem ConfOwn.at {w : World} {B : Nat} {c : ConfD} {a1 : Option Addr} {c1 : Nat} {a2 : Option Addr} {c2 : Nat} (h : ConfOwn w B c a1 c1 a2 c2) : ConfAt w c a1 a2 := ⟨h.own.strs, h.ways.pairs⟩
theorem Row.ne_prow {wA wB : World} {B1 B2 : Nat} {t : TypeId} {ao bo : Option Addr} {c1 c2 : Nat} {ps : List Pair} {ys : List ByteArray} (h1 : Row wA B1 ao c1 ys) (h2 : PRow wB B2 t bo c2 ps) (hs : wA.heap.size ≤ B2) : (blockOf bo = none ∨ blockOf bo ≠ blockOf ao) ∧ (blockOf ao = none ∨ blockOf ao ≠ blockOf bo) := by
  have key : ∀ k, blockOf ao = some k → blockOf bo = some k → False := fun k e1 e2 => by
    have := (h1.lt e1).2
    have := (h2.lt e2).1
    omega
  constructor
  · cases e : blockOf bo with
    | none => exact .inl rfl
    | some k => exact .inr fun e2 => key k e2.symm e
  · cases e : blockOf ao with
    | none => exact .inl rfl
    | some k => exact .inr fun e2 => key k e e2.symm

end Go.Proofs.YtecjifbckjclfaaDoor
