/- SpoolMark, SpoolHeld. -/
import Derived.Test.YtcaknjdolfheaaaDoorRowMark
import Derived.Test.YtcaknjdolfheaaaDoorSpools
import Derived.Test.YtcaknjdolfheaaaDoorMarksM
import Derived.Test.YtcaknjdolfheaaaDoorHeld
namespace Go.Proofs.YtcaknjdolfheaaaDoor
open Go Go.RowKit

def markOneR (k : Nat) : RcptD := ⟨markT k, markT (k + 1), ((k + 2 : Nat) : Int), ((k + 3 : Nat) : Int)⟩
def rcMarks (k n : Nat) : List RcptD := (List.range n).map fun i => markOneR (k + i * 4)
theorem rcMarks_length (k n : Nat) : (rcMarks k n).length = n := by simp [rcMarks]
theorem rcMarks_snoc (k n : Nat) : rcMarks k (n + 1) = rcMarks k n ++ [markOneR (k + n * 4)] := by simp [rcMarks, List.range_succ]
theorem rcMarks_get {k n i : Nat} (h : i < n) : (rcMarks k n)[i]? = some (markOneR (k + i * 4)) := by simp [rcMarks, h]
def itemMarks (x : ItemD) : Nat := 3 + x.rc.length * 4 + x.body.length
def markItem (k : Nat) (x : ItemD) : ItemD := ⟨(k : Int), markT (k + 1), markT (k + 2), rcMarks (k + 3) x.rc.length, markRow (k + 3 + x.rc.length * 4) x.body.length⟩
def markIs : Nat → List ItemD → List ItemD
  | _, [] => []
  | k, x :: xs => markItem k x :: markIs (k + itemMarks x) xs
theorem markIs_length : ∀ (k : Nat) (xs : List ItemD), (markIs k xs).length = xs.length
  | _, [] => rfl
  | _, _ :: xs => congrArg Nat.succ (markIs_length _ xs)
theorem markIs_snoc (k : Nat) (A : List ItemD) (x : ItemD) : markIs k (A ++ [x]) = markIs k A ++ [markItem (k + sumN itemMarks A) x] := by
  induction A generalizing k with
  | nil => simp [markIs, sumN]
  | cons a A ih =>
    rw [List.cons_append]
    unfold markIs
    rw [ih]
    have e : k + itemMarks a + sumN itemMarks A = k + sumN itemMarks (a :: A) := by unfold sumN; rw [List.map_cons, List.sum_cons]; omega
    rw [e]
    rfl
theorem rcptsR_marked (ao : Option Addr) (cap k n : Nat) : rcptsR ao cap (rcMarks k n) = Res.row 44 4 (.slice ao n cap) n (rcptE.all (rcMarks k n) (List.replicate n ())) := by
  unfold rcptsR ones
  rw [rcMarks_length]
theorem strsR_marked (ao : Option Addr) (cap k n : Nat) : strsR ao cap (markRow k n) = Res.row 9 1 (.slice ao n cap) n ((markRow k n).map Value.string) := by
  unfold strsR
  rw [markRow_length]

theorem perm_out (row : Res) (RA R RB l : List Res) : (row :: ((RA ++ (R ++ RB)) ++ l)).Perm (R ++ row :: (RA ++ (RB ++ l))) := by
  have h1 : ((RA ++ (R ++ RB)) ++ l).Perm (R ++ (RA ++ (RB ++ l))) := by
    rw [List.append_assoc, List.append_assoc]
    exact List.perm_append_comm_assoc _ _ _
  exact (h1.cons row).trans List.perm_middle.symm
theorem item_cells_marked (k : Nat) (x : ItemD) (p : ItemV) : itemE.cells (markItem k x) p = itemE.cells ⟨(k : Int), markT (k + 1), markT (k + 2), x.rc, x.body⟩ p := by
  show ([.int .i64 (k : Int), .string (markT (k + 1)), .string (markT (k + 2)), .slice p.a1 (rcMarks (k + 3) x.rc.length).length p.c1, .slice p.a2 (markRow (k + 3 + x.rc.length * 4) x.body.length).length p.c2] : List Value) = _
  rw [rcMarks_length, markRow_length]
  rfl
theorem markIs_next {k i : Nat} {xs : List ItemD} {x : ItemD} (hx : xs[i]? = some x) : markIs k (xs.take i) ++ markItem (k + sumN itemMarks (xs.take i)) x :: xs.drop (i + 1) = markIs k (xs.take (i + 1)) ++ xs.drop (i + 1) := by
  obtain ⟨hi, e⟩ := List.getElem?_eq_some_iff.1 hx
  rw [List.take_succ_eq_append_getElem hi, e, markIs_snoc, List.append_assoc]
  rfl

end Go.Proofs.YtcaknjdolfheaaaDoor
namespace Go.Proofs.YtcaknjdolfheaaaDoor
open Go Go.RowKit

theorem markIs_get : ∀ {k : Nat} {xs : List ItemD} {n : Nat} {x : ItemD}, xs[n]? = some x → (markIs k xs)[n]? = some (markItem (k + sumN itemMarks (xs.take n)) x)
  | _, [], _, _, h => by cases h
  | k, y :: ys, 0, x, h => by cases h; rfl
  | k, y :: ys, n + 1, x, h => by
    have h' : ys[n]? = some x := h
    have ih := markIs_get (k := k + itemMarks y) h'
    have e : k + itemMarks y + sumN itemMarks (ys.take n) = k + sumN itemMarks ((y :: ys).take (n + 1)) := by
      rw [List.take_succ_cons]; unfold sumN; rw [List.map_cons, List.sum_cons]; omega
    rw [e] at ih
    exact ih

end Go.Proofs.YtcaknjdolfheaaaDoor
