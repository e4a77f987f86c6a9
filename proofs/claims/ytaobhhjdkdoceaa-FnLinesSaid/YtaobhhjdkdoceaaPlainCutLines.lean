/- Plain facts: a text cut anywhere: its lines are those of the first piece and those of what is left with the second. No program in this text. -/
import Derived.Test.YtaobhhjdkdoceaaPlainDotGet
namespace Go.Proofs.Ytaobhhjdkdoceaa
open Go

theorem ba_ext' {a b : ByteArray} (h : a.data.toList = b.data.toList) : a = b := by
  apply ByteArray.ext
  apply Array.ext'
  exact h
theorem app_l (p q : ByteArray) : (p ++ q).data.toList = p.data.toList ++ q.data.toList := by simp
theorem lines_app (q : ByteArray) : ∀ (n : Nat) (p : ByteArray), p.size ≤ n → linesB (p ++ q) = linesB p ++ linesB (leftOf p ++ q) ∧ leftOf (p ++ q) = leftOf (leftOf p ++ q) := by
  have none : ∀ p : ByteArray, Lib.indexB p crlf = -1 → linesB (p ++ q) = linesB p ++ linesB (leftOf p ++ q) ∧ leftOf (p ++ q) = leftOf (leftOf p ++ q) := by
    intro p hx
    obtain ⟨e1, e2⟩ := linesB_none hx
    rw [e1, e2]
    exact ⟨rfl, rfl⟩
  intro n
  induction n with
  | zero =>
    intro p hp
    refine none p ?_
    rcases Lib.indexB_cases p crlf with e | ⟨i, _, hi⟩
    · exact e
    · rw [crlf_size] at hi; omega
  | succ n ih =>
    intro p hp
    rcases Lib.indexB_cases p crlf with hx | ⟨i, hx, hi⟩
    · exact none p hx
    · rw [crlf_size] at hi
      have hpl : p.data.toList.length = p.size := (Lib.size_eq p).symm
      have hl : ∀ j, j < p.size → (p ++ q).data.toList[j]? = p.data.toList[j]? := fun j hj => by
        rw [app_l, List.getElem?_append_left (by omega)]
      have hx2 : Lib.indexB (p ++ q) crlf = i := by
        rcases Lib.index_spec p.data.toList crlf.data.toList with ⟨e, _⟩ | ⟨j, e, _, ho, hmin⟩
        · have : Lib.index p.data.toList crlf.data.toList = i := hx
          omega
        · have : Lib.index p.data.toList crlf.data.toList = i := hx
          obtain rfl : j = i := by omega
          refine Lib.index_first (by rw [app_l, List.length_append]; omega) ?_ ?_
          · have := (occ_crlf p j).1 ho
            rw [occ_crlf, hl j (by omega), hl (j + 1) (by omega)]
            exact this
          · intro k hk
            have h0 := hmin k hk
            rw [← Bool.not_eq_true] at h0 ⊢
            rw [occ_crlf, hl k (by omega), hl (k + 1) (by omega)]
            rw [occ_crlf] at h0
            exact h0
      obtain ⟨a1, a2⟩ := linesB_hit hx hi
      obtain ⟨b1, b2⟩ := linesB_hit hx2 (by rw [ByteArray.size_append]; omega)
      have e1 : (p ++ q).extract 0 i = p.extract 0 i := ba_ext' (by rw [Lib.extract_from_zero, Lib.extract_from_zero, app_l, List.take_append_of_le_length (by omega)])
      have e2 : (p ++ q).extract (i + 2) (p ++ q).size = p.extract (i + 2) p.size ++ q := ba_ext' (by rw [app_l, Lib.extract_to_end, Lib.extract_to_end, app_l, List.drop_append_of_le_length (by omega)])
      obtain ⟨c1, c2⟩ := ih (p.extract (i + 2) p.size) (by rw [ByteArray.size_extract]; omega)
      rw [b1, b2, e1, e2, a1, a2, c1, c2]
      exact ⟨rfl, rfl⟩
theorem lines_cut (s : ByteArray) (k : Nat) : linesB s = linesB (s.extract 0 k) ++ linesB (leftOf (s.extract 0 k) ++ s.extract k s.size) ∧ leftOf s = leftOf (leftOf (s.extract 0 k) ++ s.extract k s.size) := by
  have e : s = s.extract 0 k ++ s.extract k s.size := ba_ext' (by rw [app_l, Lib.extract_from_zero, Lib.extract_to_end, List.take_append_drop])
  have := lines_app (s.extract k s.size) _ (s.extract 0 k) (Nat.le_refl _)
  rw [← e] at this
  exact this
def joinL (xs : List ByteArray) : List UInt8 := xs.flatMap fun x => x.data.toList ++ [13, 10]
theorem joinL_snoc {xs : List ByteArray} {k : Nat} {x : ByteArray} (hx : xs[k]? = some x) : joinL (xs.take (k + 1)) = joinL (xs.take k) ++ (x.data.toList ++ [13, 10]) := by
  obtain ⟨hk, e⟩ := List.getElem?_eq_some_iff.1 hx
  unfold joinL
  rw [List.take_succ_eq_append_getElem hk, List.flatMap_append, e]
  simp
theorem joinL_all (s : ByteArray) : joinL (linesB s) ++ (leftOf s).data.toList = s.data.toList := (lines_join s).symm
theorem joinL_take_len (xs : List ByteArray) (k : Nat) : (joinL (xs.take k)).length ≤ (joinL xs).length := by
  have : joinL xs = joinL (xs.take k) ++ joinL (xs.drop k) := by unfold joinL; rw [← List.flatMap_append, List.take_append_drop]
  rw [this, List.length_append]; omega
theorem leftOf_size (s : ByteArray) : (leftOf s).size ≤ s.size := by
  have := congrArg List.length (joinL_all s)
  rw [List.length_append, ← Lib.size_eq, ← Lib.size_eq] at this
  omega
end Go.Proofs.Ytaobhhjdkdoceaa
