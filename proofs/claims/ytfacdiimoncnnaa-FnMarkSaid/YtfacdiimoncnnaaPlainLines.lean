/- Plain facts: a text cut into lines that CR LF ends. No program in this text. -/
import Derived.Test.YtfacdiimoncnnaaPlain
import Derived.Lib.CutLaws
namespace Go.Proofs.Ytfacdiimoncnnaa
open Go

def crlf : ByteArray := { data := #[13, 10] }
def cutLines : Nat → ByteArray → List ByteArray × ByteArray
  | 0, s => ([], s)
  | f + 1, s => if Lib.indexB s crlf = -1 then ([], s) else
    ((s.extract 0 (Lib.indexB s crlf).toNat) :: (cutLines f (s.extract ((Lib.indexB s crlf).toNat + 2) s.size)).1, (cutLines f (s.extract ((Lib.indexB s crlf).toNat + 2) s.size)).2)
/-- The lines, and what is left. -/
def linesB (s : ByteArray) : List ByteArray := (cutLines s.size s).1
def leftOf (s : ByteArray) : ByteArray := (cutLines s.size s).2

theorem crlf_size : crlf.size = 2 := rfl
theorem crlf_data : crlf.data.toList = [13, 10] := rfl

theorem cutLines_none {s : ByteArray} (h : Lib.indexB s crlf = -1) : ∀ f, cutLines f s = ([], s)
  | 0 => rfl
  | f + 1 => by unfold cutLines; rw [if_pos h]
theorem cutLines_hit {s : ByteArray} {i : Nat} (h : Lib.indexB s crlf = i) (f : Nat) : cutLines (f + 1) s = (s.extract 0 i :: (cutLines f (s.extract (i + 2) s.size)).1, (cutLines f (s.extract (i + 2) s.size)).2) := by
  have e : (Lib.indexB s crlf).toNat = i := by omega
  rw [cutLines, if_neg (by omega), e]

theorem cutLines_fuel : ∀ (n f g : Nat) (s : ByteArray), s.size ≤ n → n ≤ f → n ≤ g → cutLines f s = cutLines g s
  | 0, f, g, s, h, _, _ => by
    have e : Lib.indexB s crlf = -1 := by
      rcases Lib.indexB_cases s crlf with e | ⟨i, _, hi⟩
      · exact e
      · rw [crlf_size] at hi; omega
    rw [cutLines_none e, cutLines_none e]
  | n + 1, f, g, s, h, hf, hg => by
    rcases Lib.indexB_cases s crlf with e | ⟨i, e, hi⟩
    · rw [cutLines_none e, cutLines_none e]
    · obtain ⟨f', rfl⟩ : ∃ t, f = t + 1 := ⟨f - 1, by omega⟩
      obtain ⟨g', rfl⟩ : ∃ t, g = t + 1 := ⟨g - 1, by omega⟩
      rw [crlf_size] at hi
      rw [cutLines_hit e, cutLines_hit e, cutLines_fuel n f' g' _ (by rw [ByteArray.size_extract]; omega) (by omega) (by omega)]

theorem linesB_none {s : ByteArray} (h : Lib.indexB s crlf = -1) : linesB s = [] ∧ leftOf s = s := by
  unfold linesB leftOf; rw [cutLines_none h]; exact ⟨rfl, rfl⟩
theorem linesB_hit {s : ByteArray} {i : Nat} (h : Lib.indexB s crlf = i) (hi : i + 2 ≤ s.size) : linesB s = s.extract 0 i :: linesB (s.extract (i + 2) s.size) ∧ leftOf s = leftOf (s.extract (i + 2) s.size) := by
  unfold linesB leftOf
  obtain ⟨f, hf⟩ : ∃ f, s.size = f + 1 := ⟨s.size - 1, by omega⟩
  have e : cutLines s.size s = (s.extract 0 i :: (cutLines f (s.extract (i + 2) s.size)).1, (cutLines f (s.extract (i + 2) s.size)).2) := by
    rw [show cutLines s.size s = cutLines (f + 1) s by rw [← hf]]; exact cutLines_hit h f
  have hz : (s.extract (i + 2) s.size).size ≤ f := by rw [ByteArray.size_extract]; omega
  rw [e, cutLines_fuel _ f (s.extract (i + 2) s.size).size _ (Nat.le_refl _) hz (Nat.le_refl _)]
  exact ⟨rfl, rfl⟩

/-- What the lines take of the text, their ends too. -/
def takes (D : List ByteArray) : Nat := (D.map fun x => x.size + 2).sum
theorem takes_snoc (D : List ByteArray) (x : ByteArray) : takes (D ++ [x]) = takes D + (x.size + 2) := by simp [takes]
theorem takes_nil : takes [] = 0 := rfl

/-- THE SCAN: D the lines so far, they take f bytes; the rest begins there. -/
def LineInv (s : ByteArray) (f : Nat) (D : List ByteArray) : Prop :=
  linesB s = D ++ linesB (s.extract f s.size) ∧ leftOf s = leftOf (s.extract f s.size) ∧ f = takes D ∧ f ≤ s.size ∧ D.length ≤ f

theorem line_start (s : ByteArray) : LineInv s 0 [] := by
  unfold LineInv
  rw [ByteArray.extract_zero_size]
  exact ⟨rfl, rfl, rfl, Nat.zero_le _, Nat.zero_le _⟩
theorem line_hit {s : ByteArray} {f i : Nat} {D : List ByteArray} (h : LineInv s f D) (hx : Lib.indexB (s.extract f s.size) crlf = i) (hi : f + i + 2 ≤ s.size) : LineInv s (f + i + 2) (D ++ [s.extract f (f + i)]) := by
  obtain ⟨h1, h2, h3, h4, h5⟩ := h
  have hz : (s.extract f s.size).size = s.size - f := by rw [ByteArray.size_extract]; omega
  obtain ⟨g1, g2⟩ := linesB_hit hx (by rw [hz]; omega)
  have e1 : (s.extract f s.size).extract 0 i = s.extract f (f + i) := by rw [ByteArray.extract_extract]; congr 1; omega
  have e2 : (s.extract f s.size).extract (i + 2) (s.extract f s.size).size = s.extract (f + i + 2) s.size := by rw [hz, ByteArray.extract_extract]; congr 1; omega
  rw [e1, e2] at g1
  rw [e2] at g2
  refine ⟨by rw [h1, g1, List.append_assoc]; rfl, h2.trans g2, ?_, hi, by simp; omega⟩
  rw [takes_snoc, ← h3, ByteArray.size_extract]; omega
theorem line_end {s : ByteArray} {f : Nat} {D : List ByteArray} (h : LineInv s f D) (hx : Lib.indexB (s.extract f s.size) crlf = -1) : linesB s = D ∧ leftOf s = s.extract f s.size := by
  obtain ⟨h1, h2, _⟩ := h
  obtain ⟨g1, g2⟩ := linesB_none hx
  rw [h1, h2, g1, g2, List.append_nil]
  exact ⟨rfl, rfl⟩

theorem occ_crlf (s : ByteArray) (j : Nat) : Lib.occAt s.data.toList crlf.data.toList j = true ↔ s.data.toList[j]? = some 13 ∧ s.data.toList[j + 1]? = some 10 := by
  unfold Lib.occAt
  rw [crlf_data, List.isPrefixOf_iff_prefix]
  constructor
  · rintro ⟨t, ht⟩
    have e : ∀ k, (s.data.toList.drop j)[k]? = s.data.toList[j + k]? := fun k => List.getElem?_drop
    have e0 := e 0
    rw [Nat.add_zero] at e0
    rw [← e0, ← e 1, ← ht]
    exact ⟨rfl, rfl⟩
  · rintro ⟨h0, h1⟩
    obtain ⟨l0, e0⟩ := List.getElem?_eq_some_iff.1 h0
    obtain ⟨l1, e1⟩ := List.getElem?_eq_some_iff.1 h1
    rw [List.drop_eq_getElem_cons l0, List.drop_eq_getElem_cons l1, e0, e1]
    exact ⟨_, rfl⟩

/-- None begins in [f, i). -/
def NoLine (s : ByteArray) (f i : Nat) : Prop := ∀ j, f ≤ j → j < i → ¬ (s.data.toList[j]? = some 13 ∧ s.data.toList[j + 1]? = some 10)
theorem index_here {s : ByteArray} {f i : Nat} (hf : f ≤ i) (h : s.data.toList[i]? = some 13 ∧ s.data.toList[i + 1]? = some 10) (hn : NoLine s f i) : Lib.indexB (s.extract f s.size) crlf = (i - f : Nat) := by
  have hg : ∀ j, (s.extract f s.size).data.toList[j]? = s.data.toList[f + j]? := fun j => get_tail s f j
  have hl : i < s.size := by rw [Lib.size_eq]; exact (List.getElem?_eq_some_iff.1 h.1).1
  refine Lib.index_first ?_ ?_ ?_
  · rw [← Lib.size_eq, ByteArray.size_extract]; omega
  · rw [occ_crlf, hg, hg, show f + (i - f) = i by omega, show f + (i - f + 1) = i + 1 by omega]; exact h
  · intro j hj
    rw [← Bool.not_eq_true, occ_crlf, hg, hg]
    exact hn (f + j) (by omega) (by omega)
theorem index_nowhere {s : ByteArray} {f : Nat} (hn : NoLine s f s.size) : Lib.indexB (s.extract f s.size) crlf = -1 := by
  have hg : ∀ j, (s.extract f s.size).data.toList[j]? = s.data.toList[f + j]? := fun j => get_tail s f j
  refine Lib.index_none ?_
  intro j _
  rw [← Bool.not_eq_true, occ_crlf, hg, hg]
  by_cases hj : f + j < s.size
  · exact hn (f + j) (by omega) hj
  · intro h
    have := (List.getElem?_eq_some_iff.1 h.1).1
    rw [← Lib.size_eq] at this
    omega
theorem noLine_skip {s : ByteArray} {f i : Nat} (h : NoLine s f i) (hi : ¬ (s.data.toList[i]? = some 13 ∧ s.data.toList[i + 1]? = some 10)) : NoLine s f (i + 1) := fun j hj hj2 => by
  by_cases e : j = i
  · subst e; exact hi
  · exact h j hj (by omega)
/-- At the last place but none begins. -/
theorem noLine_last {s : ByteArray} {f i : Nat} (h : NoLine s f i) (hi : s.size ≤ i + 1) : NoLine s f s.size := fun j hj hj2 => by
  by_cases e : j < i
  · exact h j hj e
  · rintro ⟨_, h1⟩
    have := (List.getElem?_eq_some_iff.1 h1).1
    rw [← Lib.size_eq] at this
    omega
/-- The rest's size. -/
theorem left_eq {s : ByteArray} {f : Nat} (hf : f ≤ s.size) : (s.extract f s.size).size = s.size - f := by rw [ByteArray.size_extract]; omega
theorem linesB_length (s : ByteArray) : ∀ {D : List ByteArray} {f : Nat}, LineInv s f D → D.length ≤ s.size := fun h => Nat.le_trans h.2.2.2.2 h.2.2.2.1
end Go.Proofs.Ytfacdiimoncnnaa
