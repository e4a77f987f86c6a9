/- Rows of bytes of a call's own: made, longer by one, read as a text. -/
import Derived.Test.YtmigcglcacpboaaDoorProg
import Derived.Lib.UnsafeStr
import Derived.Lib.Hide
import Derived.WalkKit
import Derived.Below
import Derived.Laws.IdiomStrings
import Derived.Laws.AppendOwn
import Derived.Laws.OwnMore
import Derived.Maps.AppendAt
namespace Go.Proofs.YtmigcglcacpboaaDoor
open Go Go.RowKit

theorem infoByteO : (Tryd.prog.info? 5).map (fun i => (i.zero, i.size, i.bytes)) = some (some (.int .u8 0), 1, 1) := by kernel_rfl

/-- THE ROW '.slice ao l.length cap' HOLDS THE BYTES l, a row of the call's own from block B on. -/
def BRow (w : World) (B : Nat) (ao : Option Addr) (cap : Nat) (l : List UInt8) : Prop := w.ownsRow B 5 1 (.slice ao l.length cap) l.length (Lib.byteCells l)

theorem BRow.later {w w' : World} {B : Nat} {ao : Option Addr} {cap : Nat} {l : List UInt8} (h : BRow w B ao cap l) (hb : Below w.heap.size w w') : BRow w' B ao cap l :=
  World.ownsRow.kept h (row := none) ⟨hb.os, hb.tape, hb.output, hb.size, fun k hk _ => hb.block k hk⟩ (by cases hv : (Value.slice ao l.length cap).ownBlock <;> simp)
theorem BRow.made (w : World) : BRow (w.alloc (.cells #[] 5)) w.heap.size (some ⟨w.heap.size, 0, none⟩) 0 [] :=
  World.ownsRow_made (e := 5) w #[] 0 (Nat.le_refl _) (by unfold maxLen; omega) rfl
theorem BRow.snoc {w : World} {B : Nat} {v : Value} {l : List UInt8} {c : UInt8} (h : w.ownsRow B 5 1 v (l.length + 1) (Lib.byteCells l ++ [.int .u8 (c.toNat : Int)])) : ∃ ao cap, v = .slice ao (l ++ [c]).length cap ∧ BRow w B ao cap (l ++ [c]) := by
  rcases h.2 with ⟨hv, h0⟩ | ⟨g, cap, cur, hv, _⟩
  · omega
  · refine ⟨some ⟨g, 0, none⟩, cap, by rw [hv]; simp, ?_⟩
    unfold BRow
    rw [hv] at h
    rw [List.length_append, List.length_singleton, Lib.byteCells_append]
    exact h
theorem BRow.conv {w : World} {B : Nat} {ao : Option Addr} {cap : Nat} {l : List UInt8} (h : BRow w B ao cap l) : (convert 22 9 (.slice ao l.length cap)).run Tryd.prog w = .ok (.string ⟨l.toArray⟩) w := by
  rcases h.2 with ⟨hv, h0⟩ | ⟨g, cap', cur, hv, _⟩
  · obtain rfl : l = [] := List.eq_nil_of_length_eq_zero h0
    simp only [Value.slice.injEq] at hv
    obtain ⟨rfl, _, rfl⟩ := hv
    show (convert 22 9 (.slice none 0 0)).run Tryd.prog w = _
    rw [run_convert_bytes_string w _ _ _ none 0 0 Tryd.underlying22 Tryd.underlying5 Tryd.underlying9]
    rfl
  · simp only [Value.slice.injEq, true_and] at hv
    obtain ⟨rfl, rfl⟩ := hv
    refine run_convert_bytes_back (P := Tryd.prog) w _ _ _ ⟨g, 0, none⟩ cap l Tryd.underlying22 Tryd.underlying5 Tryd.underlying9 ?_
    intro j hj
    exact World.ownsRow.cells h (g := g) rfl j (.int .u8 (l[j].toNat : Int)) (by simp [Lib.byteCells, hj])
theorem BRow.below {w w' : World} {B C : Nat} {ao : Option Addr} {cap : Nat} {l : List UInt8} (h : BRow w B ao cap l) (hg : w.grownBy w' (Value.slice ao l.length cap).ownBlock) (hC : C ≤ B) (hw : C ≤ w.heap.size) : Below C w w' :=
  (Below.refl C w).grown hg hw fun k hk => Nat.le_trans hC (World.ownsRow.lt h k hk).1
end Go.Proofs.YtmigcglcacpboaaDoor
