/- Lines, Iter, Undot, DotGetS, DotGetI. -/
import Derived.Test.YtcaknjdolfheaaaDoorPlains
import Derived.Test.YtcaknjdolfheaaaDoorBasis
import Derived.RangeFuncNested
import Derived.RangeFuncBound
import Derived.RangeFuncCalls
import Derived.RangeFuncLeaves
import Derived.RangeFuncBox
import Derived.Shelf.Abstract
import Derived.Shelf.RegionOpen
import Derived.WalkKit
import Derived.OwnWalkIn
import Derived.TacticsInMore
import Derived.LoopNIn
import Derived.LoopIn
import Derived.Maps.AppendAt
import Derived.RangeFuncWrites
import Derived.RangeFuncFrom
import Derived.Test.YtcaknjdolfheaaaDoorShelf
import Derived.Test.YtcaknjdolfheaaaDoorWrites
import Derived.WalkSmall
import Derived.Deep.QuietTactic
import Derived.BigQuiet
namespace Go.Proofs.YtcaknjdolfheaaaDoor
open Go Go.RowKit

/-- Two results: a row of the call's own, and a text. -/
def RowTextPost (w : World) (xs : List ByteArray) (t : ByteArray) (e : Ending) (w' : World) : Prop :=
  ∃ ao cap, e = .returned (.tuple #[.slice ao xs.length cap, .string t]) ∧ w'.ownsRow w.heap.size 9 1 (.slice ao xs.length cap) xs.length (xs.map Value.string) ∧ Below w.heap.size w w'

theorem below_app {B : Nat} {w wr w1 : World} {e : TypeId} {size : Nat} {v : Value} {n : Nat} {xs : List Value} {o : Obj} (hbel : Below B w wr) (hB : B ≤ wr.heap.size) (hown : wr.ownsRow B e size v n xs) (hg : (wr.alloc o).grownBy w1 v.ownBlock) : Below B w w1 :=
  (hbel.alloc hB o).grown hg (by simp; omega) (fun j hj => (hown.lt j hj).1)
theorem snoc_own {w : World} {B e : Nat} {v : Value} {D : List ByteArray} {x : ByteArray} (h : w.ownsRow B e 1 v (D.length + 1) (D.map Value.string ++ [.string x])) : w.ownsRow B e 1 v (D ++ [x]).length ((D ++ [x]).map Value.string) := by
  simpa using h
theorem shape_own {w : World} {base : Nat} {e : TypeId} {size : Nat} {v : Value} {n : Nat} {xs : List Value} (h : w.ownsRow base e size v n xs) : ∃ ao cap, v = .slice ao n cap := by
  rcases h.2 with ⟨h', rfl⟩ | ⟨g, cap, cur, h', _⟩
  · exact ⟨_, _, h'⟩
  · exact ⟨_, _, h'⟩

end Go.Proofs.YtcaknjdolfheaaaDoor
namespace Go.Proofs.YtcaknjdolfheaaaDoor
open Go Go.RowKit Go.Shelf
attribute [local go_sem] Oper.semAt_some

/-- A text that is not too long. -/
abbrev Text := { x : ByteArray // x.size ≤ 1048576 }
def sizeOfV : Value → Nat
  | .string s => s.size
  | _ => 0
def MaxCell (w : World) : Prop := ∃ m : Int, w.cell? ⟨0, 0, none⟩ = some (.int .i64 m)
theorem MaxCell.below {B : Nat} {w w' : World} (h : MaxCell w) (hb : Below B w w') (hB : w.heap.size ≤ B ∨ 0 < B) : MaxCell w' := by
  obtain ⟨m, hm⟩ := h
  have := World.block_lt_of_cell? w _ hm
  exact ⟨m, (hb.cell (p := ⟨0, 0, none⟩) (by simp at this ⊢; omega)).trans hm⟩

theorem below_drewL (B : Nat) (w : World) : ∀ n, Below B w (w.drewN n)
  | 0 => Below.refl _ _
  | n + 1 => (below_drewL B w n).drew
theorem grownBy_drewN (w : World) (n : Nat) : w.grownBy (w.drewN n) none :=
  have h := below_drewL w.heap.size w n
  ⟨h.os, h.tape, h.output, h.size, fun k hk _ => h.block k hk⟩

theorem takes_bound (pre : List Text) : takes (pre.map Subtype.val) ≤ 1048578 * pre.length := by
  induction pre with
  | nil => exact Nat.zero_le _
  | cons x l ih =>
    have := x.2
    unfold takes at ih ⊢
    rw [List.map_cons, List.map_cons, List.sum_cons, List.length_cons]
    omega

theorem takes_lines (s : ByteArray) : takes (linesB s) ≤ s.size ∧ s.extract (takes (linesB s)) s.size = leftOf s := by
  have key : ∀ (n : Nat) (D : List ByteArray) (f : Nat), s.size - f ≤ n → LineInv s f D → takes (linesB s) ≤ s.size ∧ s.extract (takes (linesB s)) s.size = leftOf s := by
    intro n
    induction n with
    | zero =>
      intro D f hn h
      have hx : Lib.indexB (s.extract f s.size) crlf = -1 := by
        rcases Lib.indexB_cases (s.extract f s.size) crlf with e | ⟨i, _, hi⟩
        · exact e
        · rw [crlf_size, ByteArray.size_extract] at hi; omega
      obtain ⟨e1, e2⟩ := line_end h hx
      rw [e1, e2, ← h.2.2.1]
      exact ⟨h.2.2.2.1, rfl⟩
    | succ n ih =>
      intro D f hn h
      rcases Lib.indexB_cases (s.extract f s.size) crlf with hx | ⟨i, hx, hi⟩
      · obtain ⟨e1, e2⟩ := line_end h hx
        rw [e1, e2, ← h.2.2.1]
        exact ⟨h.2.2.2.1, rfl⟩
      · rw [crlf_size, ByteArray.size_extract] at hi
        exact ih _ _ (by omega) (line_hit h hx (by omega))
  exact key s.size [] 0 (by omega) (line_start s)

def linesOfB (s : ByteArray) : List ByteArray := if 800 < s.size then [] else linesB s
def leftOfB (s : ByteArray) : ByteArray := if 800 < s.size then { data := #[] } else leftOf s

end Go.Proofs.YtcaknjdolfheaaaDoor
namespace Go.Proofs.YtcaknjdolfheaaaDoor
open Go Go.RowKit

theorem takes_mem {l : List ByteArray} {x : ByteArray} (h : x ∈ l) : x.size + 2 ≤ takes l := by
  induction l with
  | nil => cases h
  | cons a l ih =>
    unfold takes at ih ⊢
    rw [List.map_cons, List.sum_cons]
    rcases List.mem_cons.1 h with rfl | h
    · omega
    · have := ih h; omega
theorem takes_len (l : List ByteArray) : l.length ≤ takes l := by
  induction l with
  | nil => exact Nat.zero_le _
  | cons a l ih =>
    unfold takes at ih ⊢
    rw [List.map_cons, List.sum_cons, List.length_cons]
    omega
theorem lines_size {s x : ByteArray} (h : x ∈ linesB s) : x.size ≤ s.size := by
  have := takes_mem h
  have := (takes_lines s).1
  omega
theorem lines_len (s : ByteArray) : (linesB s).length ≤ s.size := Nat.le_trans (takes_len _) (takes_lines s).1
theorem strip_size (x : ByteArray) : (strip x).size ≤ x.size := by
  unfold strip
  split
  · rw [ByteArray.size_extract]; omega
  · exact Nat.le_refl _
theorem strip_no {x : ByteArray} (h : dotted x = false) : strip x = x ∧ undotOk x = true := by
  unfold strip undotOk; rw [h]; exact ⟨rfl, rfl⟩
theorem strip_yes {x : ByteArray} (h : dotted x = true) : strip x = x.extract 1 x.size ∧ undotOk x = Lib.hasPrefix x.data.toList [46, 46] := by
  unfold strip undotOk; rw [h]; exact ⟨rfl, rfl⟩
theorem outs_size {s y : ByteArray} (h : y ∈ outsB s) : y.size ≤ s.size := by
  obtain ⟨x, hx, rfl⟩ := List.mem_map.1 h
  exact Nat.le_trans (strip_size x) (lines_size (List.dropLast_subset _ hx))
theorem outs_len (s : ByteArray) : (outsB s).length ≤ s.size := by
  unfold outsB
  rw [List.length_map, List.length_dropLast]
  have := lines_len s
  omega
def strips (xs : List ByteArray) (k : Nat) : List ByteArray := (xs.take k).map strip
theorem strips_zero (xs : List ByteArray) : strips xs 0 = [] := rfl
theorem strips_len {xs : List ByteArray} {k : Nat} (h : k ≤ xs.length) : (strips xs k).length = k := by unfold strips; rw [List.length_map, List.length_take]; omega
theorem outs_take {s : ByteArray} {k : Nat} (h1 : k ≤ (linesB s).length - 1) (h2 : ¬ k + 1 < (linesB s).length) : strips (linesB s) k = outsB s := by
  unfold strips outsB
  rw [List.dropLast_eq_take, show k = (linesB s).length - 1 by omega]
theorem strips_snoc {xs : List ByteArray} {k : Nat} {x : ByteArray} (hx : xs[k]? = some x) : strips xs (k + 1) = strips xs k ++ [strip x] := by
  unfold strips
  obtain ⟨hk, e⟩ := List.getElem?_eq_some_iff.1 hx
  rw [List.take_succ_eq_append_getElem hk, List.map_append, e]; rfl
theorem own_mono {w : World} {B B' : Nat} {e : TypeId} {size : Nat} {v : Value} {n : Nat} {xs : List Value} (h : w.ownsRow B e size v n xs) (hb : B' ≤ B) : w.ownsRow B' e size v n xs :=
  ⟨h.1, h.2.imp id fun ⟨g, cap, cur, a, b, c⟩ => ⟨g, cap, cur, a, Nat.le_trans hb b, c⟩⟩

/-- Two results: a row of the call's own, and whether there is one. -/
def RowBoolPost (w : World) (r : List ByteArray × Bool) (e : Ending) (w' : World) : Prop :=
  ∃ ao cap, e = .returned (.tuple #[.slice ao r.1.length cap, .bool r.2]) ∧ w'.ownsRow w.heap.size 9 1 (.slice ao r.1.length cap) r.1.length (r.1.map Value.string) ∧ Below w.heap.size w w'
theorem RowBoolPost.nil {w w' : World} {r : List ByteArray × Bool} (h : r = ([], false)) (hb : Below w.heap.size w w') : RowBoolPost w r (.returned (.tuple #[.slice none 0 0, .bool false])) w' := by
  subst h
  exact ⟨none, 0, rfl, World.ownsRow_nil _ _ _ _, hb⟩
theorem RowBoolPost.row {w w' : World} {r : List ByteArray × Bool} {xs : List ByteArray} {ao : Option Addr} {n cap : Nat} (h : r = (xs, true)) (hn : n = xs.length) (ho : w'.ownsRow w.heap.size 9 1 (.slice ao n cap) n (xs.map Value.string)) (hb : Below w.heap.size w w') :
    RowBoolPost w r (.returned (.tuple #[.slice ao n cap, .bool true])) w' := by
  subst h hn
  exact ⟨ao, cap, rfl, ho, hb⟩
theorem dotGetR_no {s : ByteArray} (h : bodyB (outsB s) = false ∨ dotsAll (outsB s) ≠ s.data.toList) : dotGetR s = ([], false) := by
  unfold dotGetR
  rcases h with h | h
  · rw [h, Bool.and_false]; rfl
  · rw [show (dotsAll (outsB s) == s.data.toList) = false by rwa [beq_eq_false_iff_ne], Bool.and_false]; rfl
theorem dotGetR_yes {s : ByteArray} (h0 : s.size ≤ 800) (h1 : bodyB (outsB s) = true) (h2 : dotsAll (outsB s) = s.data.toList) : dotGetR s = (outsB s, true) := by
  unfold dotGetR
  rw [h1, h2, decide_eq_true h0, beq_self_eq_true]; rfl

end Go.Proofs.YtcaknjdolfheaaaDoor
namespace Go.Proofs.YtcaknjdolfheaaaDoor
open Go Go.RowKit

theorem snoc1 {w : World} {B e k : Nat} {v : Value} {xs ys : List ByteArray} {x : ByteArray} (hx : ys = xs ++ [x]) (h : w.ownsRow B e 1 v (k + 1) (xs.map Value.string ++ [.string x])) : w.ownsRow B e 1 v (k + 1) (ys.map Value.string) := by
  subst hx; simpa using h

end Go.Proofs.YtcaknjdolfheaaaDoor
namespace Go.Proofs.YtcaknjdolfheaaaDoor
open Go Go.RowKit

/-- The lines while their dots are taken away in place. -/
def stripCells (xs : List ByteArray) (k : Nat) : List Value := ((xs.take k).map strip ++ xs.drop k).map Value.string
theorem stripCells_zero (xs : List ByteArray) : stripCells xs 0 = xs.map Value.string := by simp [stripCells]
theorem stripCells_end (xs : List ByteArray) : stripCells xs xs.length = (xs.map strip).map Value.string := by simp [stripCells]
theorem stripCells_get {xs : List ByteArray} {k : Nat} {x : ByteArray} (hx : xs[k]? = some x) : (stripCells xs k)[k]? = some (.string x) := by
  obtain ⟨hk, e⟩ := List.getElem?_eq_some_iff.1 hx
  unfold stripCells
  rw [List.getElem?_map, List.getElem?_append_right (by simp; omega)]
  rw [List.length_map, List.length_take, Nat.min_eq_left (by omega), Nat.sub_self, List.getElem?_drop, Nat.add_zero, hx]; rfl
theorem stripCells_set {xs : List ByteArray} {k : Nat} {x : ByteArray} (hx : xs[k]? = some x) : (stripCells xs k).set k (.string (strip x)) = stripCells xs (k + 1) := by
  obtain ⟨hk, e⟩ := List.getElem?_eq_some_iff.1 hx
  unfold stripCells
  have hl : ((xs.take k).map strip).length = k := by rw [List.length_map, List.length_take]; omega
  rw [List.take_succ_eq_append_getElem hk, e, List.drop_eq_getElem_cons hk, ← List.map_set]
  congr 1
  rw [List.set_append_right _ _ (by omega), hl, Nat.sub_self, List.set_cons_zero, List.map_append, List.append_assoc]
  rfl

theorem dotGetR_not {s : ByteArray} (h0 : ¬ 800 < s.size) (h : stepsOk s = false) : dotGetR s = ([], false) := by rw [dotGetR_steps h0, h]; rfl
theorem dotGetR_is {s : ByteArray} (h0 : ¬ 800 < s.size) (h : stepsOk s = true) : dotGetR s = (outsB s, true) := by rw [dotGetR_steps h0, h]; rfl
theorem steps_last {s : ByteArray} (h : (linesB s).getLast? ≠ some (mk [46])) : stepsOk s = false := by
  unfold stepsOk; rw [decide_eq_false h]; rfl
theorem steps_left {s : ByteArray} (h : leftOf s ≠ mk []) : stepsOk s = false := by
  unfold stepsOk; rw [decide_eq_false h, Bool.and_false]; rfl
theorem steps_undot {s x : ByteArray} (hx : x ∈ (linesB s).dropLast) (h : undotOk x = false) : stepsOk s = false := by
  unfold stepsOk
  rw [show (linesB s).dropLast.all undotOk = false by rw [List.all_eq_false]; exact ⟨x, hx, by rw [h]; simp⟩, Bool.and_false]; rfl
theorem steps_body {s : ByteArray} (h : bodyB (outsB s) = false) : stepsOk s = false := by
  unfold stepsOk; rw [h, Bool.and_false]
theorem steps_yes {s : ByteArray} (h1 : (linesB s).getLast? = some (mk [46])) (h2 : leftOf s = mk []) (h3 : (linesB s).dropLast.all undotOk = true) (h4 : bodyB (outsB s) = true) : stepsOk s = true := by
  unfold stepsOk; rw [decide_eq_true h1, decide_eq_true h2, h3, h4]; rfl

theorem dotGetR_none {s : ByteArray} (h : linesOfB s = []) : dotGetR s = ([], false) := by
  by_cases hbig : 800 < s.size
  · exact dotGetR_big hbig
  · refine dotGetR_not hbig (steps_last ?_)
    rw [← show linesOfB s = linesB s from if_neg hbig, h]
    simp

end Go.Proofs.YtcaknjdolfheaaaDoor
