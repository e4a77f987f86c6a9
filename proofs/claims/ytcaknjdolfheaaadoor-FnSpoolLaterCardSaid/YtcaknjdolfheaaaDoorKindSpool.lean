/- Kinds of arguments and answers, in one form: spools. -/
import Derived.Test.YtcaknjdolfheaaaDoorKinds
import Derived.Test.YtcaknjdolfheaaaDoorSpools
import Derived.Test.YtcaknjdolfheaaaDoorSpoolMarks
import Derived.Test.YtcaknjdolfheaaaDoorSpoolOks
namespace Go.Proofs.YtcaknjdolfheaaaDoor
open Go Go.RowKit

/-- Where its rows lie. -/
structure SpoolP where
  a : Option Addr
  c : Nat
  ps : List ItemV
abbrev spoolKV (s : SpoolD) (p : SpoolP) : Array Value := #[.int .i64 s.last, .slice p.a s.items.length p.c]
abbrev spoolKL (s : SpoolD) (p : SpoolP) : List Value := [.int .i64 s.last, .slice p.a s.items.length p.c]
abbrev spoolKR (s : SpoolD) (p : SpoolP) : List Res := itemsR p.a p.c s.items p.ps
abbrev spoolKA (w : World) (s : SpoolD) (p : SpoolP) : Prop := ItemRow w p.a s.items
def spoolKF (s : SpoolD) (p : SpoolP) : Prop := p.ps.length = s.items.length
abbrev spoolKZ (s : SpoolD) : Prop := spoolN s ≤ 1048576
def spoolKM (s : SpoolD) : Nat := sumN itemMarks s.items
def spoolKmk (k : Nat) (s : SpoolD) : SpoolD := ⟨s.last, markIs k s.items⟩
theorem spoolK_below {B : Nat} {w w' : World} {s : SpoolD} {p : SpoolP} (h : spoolKA w s p) (hb : Below B w w') (hB : w.heap.size ≤ B) : spoolKA w' s p := h.below itemP_stays hb hB
theorem spoolK_read {w : World} {s : SpoolD} {p : SpoolP} (hf : spoolKF s p) (h : ∀ r ∈ spoolKR s p, r.P w) : spoolKA w s p := items_read hf h
theorem spoolK_marks {s : SpoolD} (h : spoolKZ s) : spoolKM s ≤ 4194304 := by
  have h1 : sumN itemMarks s.items ≤ sumN (fun x => 3 + 4 * itemN x) s.items := sumN_le fun x _ => by
    have a := rowN_length rcptN x.rc
    have b := rowN_length ByteArray.size x.body
    unfold itemMarks itemN
    omega
  have h2 : ∀ xs : List ItemD, sumN (fun x => 3 + 4 * itemN x) xs = 3 * xs.length + 4 * sumN itemN xs := fun xs => by
    induction xs with
    | nil => rfl
    | cons x xs ih =>
      unfold sumN at ih ⊢
      rw [List.map_cons, List.map_cons, List.sum_cons, List.sum_cons, List.length_cons]
      omega
  have h3 := h2 s.items
  have h4 : rowN itemN s.items ≤ 1048576 := h
  rw [rowN_eq] at h4
  unfold spoolKM
  omega
theorem spoolK_mkF {k : Nat} {s : SpoolD} {p : SpoolP} (h : spoolKF s p) : spoolKF (spoolKmk k s) p := by
  unfold spoolKF spoolKmk at *
  rw [markIs_length]
  exact h
theorem spoolK_small {s : SpoolD} {left : Int} (h : ¬ leftN (spoolN s) left < 0) (_ : 0 ≤ left) (h1 : left ≤ 1048576) : spoolKZ s := by
  have := leftN_small h
  unfold spoolKZ
  omega

end Go.Proofs.YtcaknjdolfheaaaDoor
