/- Rows of a call's own, from world to world. -/
import Derived.Test.YtfacdiimoncnnaaMark
namespace Go.Proofs.Ytfacdiimoncnnaa
open Go Go.RowKit

/-- THE ROW '.slice ao xs.length cap' HOLDS xs, a row of the call's own from block B on. -/
def Row (w : World) (B : Nat) (ao : Option Addr) (cap : Nat) (xs : List ByteArray) : Prop := w.ownsRow B 9 1 (.slice ao xs.length cap) xs.length (xs.map Value.string)

theorem Row.strs {w : World} {B : Nat} {ao : Option Addr} {cap : Nat} {xs : List ByteArray} (h : Row w B ao cap xs) : StrRow w ao xs := StrRow.of_own h
theorem Row.later {w w' : World} {B : Nat} {ao : Option Addr} {cap : Nat} {xs : List ByteArray} (h : Row w B ao cap xs) (hb : Below w.heap.size w w') : Row w' B ao cap xs := own_later h hb
def blockOf : Option Addr → Option Nat
  | some a => some a.block
  | none => none
theorem own_block (ao : Option Addr) (n cap : Nat) : (Value.slice ao n cap).ownBlock = blockOf ao := by cases ao <;> rfl
theorem Row.lt {w : World} {B : Nat} {ao : Option Addr} {cap : Nat} {xs : List ByteArray} (h : Row w B ao cap xs) {k : Nat} (hk : blockOf ao = some k) : B ≤ k ∧ k < w.heap.size :=
  World.ownsRow.lt h k (by rw [own_block]; exact hk)
/-- Behind a write to another row. -/
theorem Row.other {w w' : World} {B : Nat} {ao bo : Option Addr} {cap : Nat} {xs : List ByteArray} (h : Row w B ao cap xs) (hg : w.grownBy w' (blockOf bo)) (hne : blockOf ao = none ∨ blockOf ao ≠ blockOf bo) : Row w' B ao cap xs :=
  World.ownsRow.kept h hg (by rw [own_block]; exact hne)
/-- Two rows, the one made before the other. -/
theorem Row.ne {wA wB : World} {B1 B2 : Nat} {ao bo : Option Addr} {c1 c2 : Nat} {xs ys : List ByteArray} (h1 : Row wA B1 ao c1 xs) (h2 : Row wB B2 bo c2 ys) (hs : wA.heap.size ≤ B2) : (blockOf ao = none ∨ blockOf ao ≠ blockOf bo) ∧ (blockOf bo = none ∨ blockOf bo ≠ blockOf ao) := by
  have key : ∀ k, blockOf ao = some k → blockOf bo = some k → False := fun k e1 e2 => by
    have := (h1.lt e1).2
    have := (h2.lt e2).1
    omega
  constructor
  · cases e : blockOf ao with
    | none => exact .inl rfl
    | some k => exact .inr fun e2 => key k e e2.symm
  · cases e : blockOf bo with
    | none => exact .inl rfl
    | some k => exact .inr fun e2 => key k e2.symm e
theorem below_drewN (B : Nat) (w : World) (n : Nat) : Below B w (w.drewN n) := drewN_below (Below.refl B w) n
theorem below_grown {w w' : World} {B C : Nat} {ao : Option Addr} {cap : Nat} {xs : List ByteArray} (h : Row w B ao cap xs) (hg : w.grownBy w' (blockOf ao)) (hC : C ≤ B) (hw : C ≤ w.heap.size) : Below C w w' :=
  (Below.refl C w).grown hg hw fun _ hk => Nat.le_trans hC (h.lt hk).1
theorem drewN_size (w : World) (n : Nat) : (w.drewN n).heap.size = w.heap.size :=
  Nat.le_antisymm (by induction n generalizing w with | zero => exact Nat.le_refl _ | succ n ih => exact Nat.le_trans (ih _) (Nat.le_refl _)) (below_drewN 0 w n).size

theorem toStringS_row (ao : Option Addr) (cap : Nat) (xs : List ByteArray) (w : World) (hr : StrRow w ao xs) (hl : xs.length ≤ 1048576) :
    Calls Try.prog 7 #[.slice ao xs.length cap] w fun e w' => ∃ bo c, e = .returned (.slice bo xs.length c) ∧ Row w' w.heap.size bo c xs ∧ Below w.heap.size w w' :=
  toStringS_any ao cap xs w hr hl
end Go.Proofs.Ytfacdiimoncnnaa
