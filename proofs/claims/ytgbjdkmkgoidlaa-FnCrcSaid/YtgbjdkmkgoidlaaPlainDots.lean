/- Plain facts: lines as they are sent. No program in this text. -/
import Derived.Test.YtgbjdkmkgoidlaaPlain
import Derived.Lib.Strings
namespace Go.Proofs.Ytgbjdkmkgoidlaa
open Go

def dotted (s : ByteArray) : Bool := Lib.hasPrefix s.data.toList [46]
def dotLine (s : ByteArray) : List UInt8 := (if dotted s then [46] else []) ++ s.data.toList ++ [13, 10]
def dotsL (xs : List ByteArray) : List UInt8 := xs.flatMap dotLine
def dotsAll (xs : List ByteArray) : List UInt8 := dotsL xs ++ [46] ++ [13, 10]

theorem dotsL_snoc {xs : List ByteArray} {k : Nat} {x : ByteArray} (hx : xs[k]? = some x) : dotsL (xs.take (k + 1)) = dotsL (xs.take k) ++ dotLine x := by
  obtain ⟨hk, e⟩ := List.getElem?_eq_some_iff.1 hx
  unfold dotsL
  rw [List.take_succ_eq_append_getElem hk, List.flatMap_append, e]
  simp
theorem dotLine_length (s : ByteArray) : (dotLine s).length ≤ s.size + 3 := by
  unfold dotLine
  rw [Lib.size_eq]
  split <;> simp <;> omega
theorem dotsL_length {xs : List ByteArray} (hs : ∀ x ∈ xs, x.size ≤ 40) : (dotsL xs).length ≤ 43 * xs.length := by
  induction xs with
  | nil => simp [dotsL]
  | cons y ys ih =>
    have h1 := ih fun x hx => hs x (List.mem_cons_of_mem _ hx)
    have h2 := hs y List.mem_cons_self
    have h3 := dotLine_length y
    unfold dotsL at h1 ⊢
    rw [List.flatMap_cons, List.length_append, List.length_cons]
    omega
theorem dotsL_take {xs : List ByteArray} (hs : ∀ x ∈ xs, x.size ≤ 40) (k : Nat) : (dotsL (xs.take k)).length ≤ 43 * k := by
  have h := dotsL_length (xs := xs.take k) fun x hx => hs x (List.mem_of_mem_take hx)
  have := List.length_take_le k xs
  have h4 : 43 * (xs.take k).length ≤ 43 * k := Nat.mul_le_mul_left _ this
  omega

theorem dotted_true {s : ByteArray} (h : dotted s = true) : ∃ h0 : 0 < s.size, s[0] = 46 := by
  unfold dotted Lib.hasPrefix at h
  have h0 : 0 < s.size := by
    rw [Lib.size_eq]
    cases e : s.data.toList with
    | nil => rw [e] at h; simp at h
    | cons a l => simp
  refine ⟨h0, ?_⟩
  have e := Lib.data_getElem? s 0 h0
  cases e2 : s.data.toList with
  | nil => rw [e2] at e; cases e
  | cons a l =>
    rw [e2] at e h
    have ha : a = s[0] := by simpa using e
    simp at h
    rw [← ha, h]
theorem dotted_false {s : ByteArray} (h : dotted s = false) : s.toList = [] ∨ (¬ s.toList = [] ∧ ∃ h0 : 0 < s.size, s[0] ≠ 46) := by
  rw [Lib.toList_data]
  cases e2 : s.data.toList with
  | nil => exact .inl rfl
  | cons a l =>
    have h0 : 0 < s.size := by rw [Lib.size_eq, e2]; simp
    refine .inr ⟨by simp, h0, ?_⟩
    have e := Lib.data_getElem? s 0 h0
    rw [e2] at e
    have ha : a = s[0] := by simpa using e
    unfold dotted Lib.hasPrefix at h
    rw [e2] at h
    intro e3
    rw [← ha] at e3
    rw [e3] at h
    simp at h
theorem dotLine_yes {s : ByteArray} (h : dotted s = true) : dotLine s = [46] ++ s.data.toList ++ [13, 10] := by unfold dotLine; rw [h]; rfl
theorem dotLine_no {s : ByteArray} (h : dotted s = false) : dotLine s = s.data.toList ++ [13, 10] := by unfold dotLine; rw [h]; rfl
theorem str_eq {a : ByteArray} {l : List UInt8} (h : a.data.toList = l) : a = ⟨l.toArray⟩ := by
  apply ByteArray.ext
  apply Array.ext'
  simpa using h
theorem app_data (a b : ByteArray) : (a ++ b).data.toList = a.data.toList ++ b.data.toList := by simp
end Go.Proofs.Ytgbjdkmkgoidlaa
