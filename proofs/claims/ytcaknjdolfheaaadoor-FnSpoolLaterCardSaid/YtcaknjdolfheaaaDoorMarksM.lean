/- Contracts: marks written into a mail and into a client's state that a call owns: what else there is stays. -/
import Derived.Test.YtcaknjdolfheaaaDoorMarks
namespace Go.Proofs.YtcaknjdolfheaaaDoor
open Go Go.RowKit

/-- From w to w' only blocks of S and new ones may have been written. -/
structure GrownIn (S : Nat → Prop) (w w' : World) : Prop where
  os : w'.os = w.os
  tape : w'.tape = w.tape
  output : w'.output = w.output
  size : w.heap.size ≤ w'.heap.size
  block : ∀ i, i < w.heap.size → ¬ S i → w'.heap[i]? = w.heap[i]?
theorem GrownIn.trans {S : Nat → Prop} {a b c : World} (h : GrownIn S a b) (k : GrownIn S b c) : GrownIn S a c :=
  ⟨k.os.trans h.os, k.tape.trans h.tape, k.output.trans h.output, Nat.le_trans h.size k.size, fun i hi1 hi2 => (k.block i (Nat.lt_of_lt_of_le hi1 h.size) hi2).trans (h.block i hi1 hi2)⟩
theorem GrownIn.mono {S T : Nat → Prop} {a b : World} (h : GrownIn S a b) (hST : ∀ i, S i → T i) : GrownIn T a b :=
  ⟨h.os, h.tape, h.output, h.size, fun i h1 h2 => h.block i h1 (fun e => h2 (hST i e))⟩
theorem GrownIn.of_grown {S : Nat → Prop} {w w' : World} {row : Option Nat} (hg : w.grownBy w' row) (hr : ∀ g, row = some g → S g) : GrownIn S w w' :=
  ⟨hg.os, hg.tape, hg.output, hg.size, fun i h1 h2 => hg.block i h1 (fun e => h2 (hr i e.symm))⟩
theorem GrownIn.of_below {S : Nat → Prop} {w w' : World} (hb : Below w.heap.size w w') : GrownIn S w w' :=
  ⟨hb.os, hb.tape, hb.output, hb.size, fun i h1 _ => hb.block i h1⟩
theorem GrownIn.below {S : Nat → Prop} {lo : Nat} {w w' : World} (h : GrownIn S w w') (hw : lo ≤ w.heap.size) (hS : ∀ i, S i → lo ≤ i) : Below lo w w' :=
  ⟨h.os, h.tape, h.output, h.size, fun i h1 => h.block i (Nat.lt_of_lt_of_le h1 hw) (fun e => by have := hS i e; omega)⟩
theorem GrownIn.own {S : Nat → Prop} {base size n : Nat} {e : TypeId} {v : Value} {xs : List Value} {w w' : World} (h : GrownIn S w w') (ho : w.ownsRow base e size v n xs) (hne : ∀ g, v.ownBlock = some g → ¬ S g) : w'.ownsRow base e size v n xs := by
  refine ⟨ho.1, ?_⟩
  rcases ho.2 with hn | ⟨g, cap, cur, rfl, hb, hgg, rest⟩
  · exact .inl hn
  · refine .inr ⟨g, cap, cur, rfl, hb, ?_, rest⟩
    rw [h.block g (Array.getElem?_eq_some_iff.1 hgg).1 (hne g rfl)]
    exact hgg
theorem GrownIn.cells {S : Nat → Prop} {k : Nat} {xs : List Value} {w w' : World} (h : GrownIn S w w') (hk : CellsM w k xs) (hS : ¬ S k) : CellsM w' k xs :=
  have hb := h.block k hk.lt hS
  ⟨fun j v e => (World.cell?_of_block (a := ⟨k, j, none⟩) hb).trans (hk.c j v e), fun j e => (World.frozen?_of_block (a := ⟨k, j, none⟩) hb).trans (hk.f j e), Nat.lt_of_lt_of_le hk.lt h.size⟩
/-- Rows of two kinds are two blocks. -/
theorem own_ne_type {w : World} {B1 B2 s1 s2 n1 n2 : Nat} {e1 e2 : TypeId} {v1 v2 : Value} {xs1 xs2 : List Value} (h1 : w.ownsRow B1 e1 s1 v1 n1 xs1) (h2 : w.ownsRow B2 e2 s2 v2 n2 xs2) (hne : e1 ≠ e2) : v1.ownBlock = none ∨ v1.ownBlock ≠ v2.ownBlock := by
  rcases h1.2 with ⟨rfl, _⟩ | ⟨g, c, cur, rfl, _, hg, _⟩
  · exact .inl rfl
  · rcases h2.2 with ⟨rfl, _⟩ | ⟨g', c', cur', rfl, _, hg', _⟩
    · exact .inr (by simp [Value.ownBlock])
    · refine .inr fun e => ?_
      have e' : g = g' := Option.some.inj e
      subst e'
      cases hg.symm.trans hg'
      exact hne rfl
theorem grown_later {w w1 w2 : World} {r : Option Nat} (h : w.grownBy w1 r) (hb : Below w1.heap.size w1 w2) : w.grownBy w2 r :=
  ⟨hb.os.trans h.os, hb.tape.trans h.tape, hb.output.trans h.output, Nat.le_trans h.size hb.size, fun i h1 h2 => (hb.block i (Nat.lt_of_lt_of_le h1 h.size)).trans (h.block i h1 h2)⟩
theorem grown_set {w w1 : World} {g : Nat} (h : w.grownBy w1 (some g)) (j : Nat) (u : Value) : w.grownBy (w1.setCell ⟨g, j, none⟩ u) (some g) :=
  ⟨h.os, h.tape, h.output, by simpa using h.size, fun i h1 h2 => (Below.heap_setCell _ _ _ _ (fun e => h2 (congrArg some e))).trans (h.block i h1 h2)⟩

def markP (k n : Nat) : List Pair := (List.range n).map fun i => (markT (k + i * 2), markT (k + i * 2 + 1))
theorem markP_length (k n : Nat) : (markP k n).length = n := by simp [markP]
def markPR (k i : Nat) (ps : List Pair) : List Pair := markP k i ++ ps.drop i
theorem pairCells_app (A B : List Pair) : pairCells (A ++ B) = pairCells A ++ pairCells B := by simp [pairCells]
theorem pairCells_set0 (A B : List Pair) (p : Pair) (u : ByteArray) : (pairCells (A ++ p :: B)).set (A.length * 2) (.string u) = pairCells (A ++ (u, p.2) :: B) := by
  rw [pairCells_app, pairCells_app, List.set_append_right _ _ (by rw [pairCells_length]; exact Nat.le_refl _), pairCells_length, Nat.sub_self]
  rfl
theorem pairCells_set1 (A B : List Pair) (p : Pair) (u : ByteArray) : (pairCells (A ++ p :: B)).set (A.length * 2 + 1) (.string u) = pairCells (A ++ (p.1, u) :: B) := by
  rw [pairCells_app, pairCells_app, List.set_append_right _ _ (by rw [pairCells_length]; omega), pairCells_length, show A.length * 2 + 1 - A.length * 2 = 1 by omega]
  rfl
theorem markPR_at (k i : Nat) (ps : List Pair) (h : i < ps.length) : ∃ p, markPR k i ps = markP k i ++ p :: ps.drop (i + 1) := ⟨ps[i], by rw [markPR, List.drop_eq_getElem_cons h]⟩
theorem markPR_next (k i : Nat) (ps : List Pair) : markP k i ++ (markT (k + i * 2), markT (k + i * 2 + 1)) :: ps.drop (i + 1) = markPR k (i + 1) ps := by
  simp [markPR, markP, List.range_succ]
theorem markPR_end (k : Nat) (ps : List Pair) : markPR k ps.length ps = markP k ps.length := by simp [markPR]
def mailS (a1 a2 : Option Addr) : Nat → Prop := fun i => blockOf a1 = some i ∨ blockOf a2 = some i
def cliS (a1 a2 a3 : Option Addr) (n c : Nat) : Nat → Prop := fun i => mailS a1 a2 i ∨ (Value.slice a3 n c).ownBlock = some i

end Go.Proofs.YtcaknjdolfheaaaDoor
