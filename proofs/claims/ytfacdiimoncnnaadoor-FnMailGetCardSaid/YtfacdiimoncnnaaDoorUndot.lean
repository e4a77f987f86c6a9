/- Contracts: DotGet of the model; a line without its dot. -/
import Derived.Test.YtfacdiimoncnnaaDoorPlains
import Derived.Test.YtfacdiimoncnnaaDoorDotPut
import Derived.Test.YtfacdiimoncnnaaDoorIter
import Derived.Test.YtfacdiimoncnnaaDoorBasis
import Derived.WalkSmall
import Derived.Deep.QuietTactic
import Derived.BigQuiet
namespace Go.Proofs.YtfacdiimoncnnaaDoor
open Go Go.RowKit

theorem takes_mem {l : List ByteArray} {x : ByteArray} (h : x ∈ l) : x.size + 2 ≤ takes l := by
  induction l with
  | nil => cases h
  | cons a l ih =>
    unfold takes at ih ⊢
    rw [List.map_cons, List.sum_cons]
    rcases List.mem_cons.1 h with rfl | h
    · omega
    · have := ih h; omega
theorem takes_len (l : List ByteArray) : l.length ≤ takes l := by
  induction l with
  | nil => exact Nat.zero_le _
  | cons a l ih =>
    unfold takes at ih ⊢
    rw [List.map_cons, List.sum_cons, List.length_cons]
    omega
theorem lines_size {s x : ByteArray} (h : x ∈ linesB s) : x.size ≤ s.size := by
  have := takes_mem h
  have := (takes_lines s).1
  omega
theorem lines_len (s : ByteArray) : (linesB s).length ≤ s.size := Nat.le_trans (takes_len _) (takes_lines s).1
theorem strip_size (x : ByteArray) : (strip x).size ≤ x.size := by
  unfold strip
  split
  · rw [ByteArray.size_extract]; omega
  · exact Nat.le_refl _
theorem strip_no {x : ByteArray} (h : dotted x = false) : strip x = x ∧ undotOk x = true := by
  unfold strip undotOk; rw [h]; exact ⟨rfl, rfl⟩
theorem strip_yes {x : ByteArray} (h : dotted x = true) : strip x = x.extract 1 x.size ∧ undotOk x = Lib.hasPrefix x.data.toList [46, 46] := by
  unfold strip undotOk; rw [h]; exact ⟨rfl, rfl⟩
theorem outs_size {s y : ByteArray} (h : y ∈ outsB s) : y.size ≤ s.size := by
  obtain ⟨x, hx, rfl⟩ := List.mem_map.1 h
  exact Nat.le_trans (strip_size x) (lines_size (List.dropLast_subset _ hx))
theorem outs_len (s : ByteArray) : (outsB s).length ≤ s.size := by
  unfold outsB
  rw [List.length_map, List.length_dropLast]
  have := lines_len s
  omega
def strips (xs : List ByteArray) (k : Nat) : List ByteArray := (xs.take k).map strip
theorem strips_zero (xs : List ByteArray) : strips xs 0 = [] := rfl
theorem strips_len {xs : List ByteArray} {k : Nat} (h : k ≤ xs.length) : (strips xs k).length = k := by unfold strips; rw [List.length_map, List.length_take]; omega
theorem outs_take {s : ByteArray} {k : Nat} (h1 : k ≤ (linesB s).length - 1) (h2 : ¬ k + 1 < (linesB s).length) : strips (linesB s) k = outsB s := by
  unfold strips outsB
  rw [List.dropLast_eq_take, show k = (linesB s).length - 1 by omega]
theorem strips_snoc {xs : List ByteArray} {k : Nat} {x : ByteArray} (hx : xs[k]? = some x) : strips xs (k + 1) = strips xs k ++ [strip x] := by
  unfold strips
  obtain ⟨hk, e⟩ := List.getElem?_eq_some_iff.1 hx
  rw [List.take_succ_eq_append_getElem hk, List.map_append, e]; rfl
theorem own_mono {w : World} {B B' : Nat} {e : TypeId} {size : Nat} {v : Value} {n : Nat} {xs : List Value} (h : w.ownsRow B e size v n xs) (hb : B' ≤ B) : w.ownsRow B' e size v n xs :=
  ⟨h.1, h.2.imp id fun ⟨g, cap, cur, a, b, c⟩ => ⟨g, cap, cur, a, Nat.le_trans hb b, c⟩⟩

/-- Two results: a row of the call's own, and whether there is one. -/
def RowBoolPost (w : World) (r : List ByteArray × Bool) (e : Ending) (w' : World) : Prop :=
  ∃ ao cap, e = .returned (.tuple #[.slice ao r.1.length cap, .bool r.2]) ∧ w'.ownsRow w.heap.size 9 1 (.slice ao r.1.length cap) r.1.length (r.1.map Value.string) ∧ Below w.heap.size w w'
theorem RowBoolPost.nil {w w' : World} {r : List ByteArray × Bool} (h : r = ([], false)) (hb : Below w.heap.size w w') : RowBoolPost w r (.returned (.tuple #[.slice none 0 0, .bool false])) w' := by
  subst h
  exact ⟨none, 0, rfl, World.ownsRow_nil _ _ _ _, hb⟩
theorem RowBoolPost.row {w w' : World} {r : List ByteArray × Bool} {xs : List ByteArray} {ao : Option Addr} {n cap : Nat} (h : r = (xs, true)) (hn : n = xs.length) (ho : w'.ownsRow w.heap.size 9 1 (.slice ao n cap) n (xs.map Value.string)) (hb : Below w.heap.size w w') :
    RowBoolPost w r (.returned (.tuple #[.slice ao n cap, .bool true])) w' := by
  subst h hn
  exact ⟨ao, cap, rfl, ho, hb⟩
theorem dotGetR_no {s : ByteArray} (h : bodyB (outsB s) = false ∨ dotsAll (outsB s) ≠ s.data.toList) : dotGetR s = ([], false) := by
  unfold dotGetR
  rcases h with h | h
  · rw [h, Bool.and_false]; rfl
  · rw [show (dotsAll (outsB s) == s.data.toList) = false by rwa [beq_eq_false_iff_ne], Bool.and_false]; rfl
theorem dotGetR_yes {s : ByteArray} (h0 : s.size ≤ 800) (h1 : bodyB (outsB s) = true) (h2 : dotsAll (outsB s) = s.data.toList) : dotGetR s = (outsB s, true) := by
  unfold dotGetR
  rw [h1, h2, decide_eq_true h0, beq_self_eq_true]; rfl

theorem undot_any (x : ByteArray) (w : World) :
    Calls Tryd.prog 184 #[.string x] w fun e w' => e = .returned (.tuple #[.string (strip x), .bool (undotOk x)]) ∧ Below w.heap.size w w' := by
  cases hd : dotted x
  · obtain ⟨e1, e2⟩ := strip_no hd
    have HP : Hid (Lib.hasPrefix x.data.toList ({ data := #[46] } : ByteArray).data.toList = false) := Lib.hid hd
    rw [e1, e2]
    clear e1 e2 hd
    go_enter Tryd.func184, Tryd.ntmps184
    go_wp2_with (go_at_call 188; refine (Tryd.strings_HasPrefix _ _ _).mono ?_; rintro e w' ⟨rfl, rfl⟩; rw [HP.out])
    go_ret2
    exact ⟨rfl, Below.refl _ _⟩
  · obtain ⟨e1, e2⟩ := strip_yes hd
    have HP : Hid (Lib.hasPrefix x.data.toList ({ data := #[46] } : ByteArray).data.toList = true) := Lib.hid hd
    obtain ⟨h0, _⟩ := dotted_true hd
    rw [e1, e2]
    clear e1 e2 hd
    go_enter Tryd.func184, Tryd.ntmps184
    go_wp2_with fail
    refine (Tryd.strings_HasPrefix _ _ _).mono ?_
    rintro e w' ⟨rfl, rfl⟩
    rw [HP.out]
    go_wp2_with fail
    go_quiet ((go_at_call 188; refine Calls.quiet_of_same (Tryd.strings_HasPrefix _ _ _)))
    go_wp2
    go_ret2
    exact ⟨rfl, below_drewN _ _ _⟩
end Go.Proofs.YtfacdiimoncnnaaDoor
