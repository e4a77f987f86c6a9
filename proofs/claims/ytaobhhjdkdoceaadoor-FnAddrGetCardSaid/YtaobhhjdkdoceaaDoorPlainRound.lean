/- Plain facts: an address is read back from how it is written, and what is read is written just so. No program in this text. -/
import Derived.Test.YtaobhhjdkdoceaaDoorPlainGet
namespace Go.Proofs.YtaobhhjdkdoceaaDoor
open Go

theorem ba_ext {a b : ByteArray} (h : a.data.toList = b.data.toList) : a = b := by
  apply ByteArray.ext
  apply Array.ext'
  exact h
theorem wire_data (u d : ByteArray) : (wireB u d).data.toList = 60 :: (u.data.toList ++ 64 :: d.data.toList) ++ [62] := by
  unfold wireB; simp
theorem wire_size (u d : ByteArray) : (wireB u d).size = u.size + d.size + 3 := by
  unfold wireB
  simp only [ByteArray.size_append]
  show 1 + u.size + 1 + d.size + 1 = _
  omega
theorem ends_join : ∀ {l : List UInt8} {a z : UInt8}, 2 ≤ l.length → l[0]? = some a → l[l.length - 1]? = some z → l = a :: (l.take (l.length - 1)).drop 1 ++ [z]
  | [], _, _, h, _, _ => by simp at h
  | [_], _, _, h, _, _ => by simp at h
  | x :: y :: t, a, z, _, h0, h1 => by
    have e0 : x = a := by simpa using h0
    subst e0
    have hne : (y :: t) ≠ [] := by simp
    have e1 : (y :: t).getLast hne = z := by
      have : (y :: t)[(y :: t).length - 1]? = some z := by simpa using h1
      rw [← List.getLast?_eq_getElem?, List.getLast?_eq_some_getLast hne] at this
      exact Option.some.inj this
    have e2 : ((x :: y :: t).take ((x :: y :: t).length - 1)).drop 1 = (y :: t).dropLast := by
      rw [List.dropLast_eq_take]; simp
    rw [e2, ← e1, List.cons_append, List.dropLast_concat_getLast hne]
theorem inner_data (s : ByteArray) : (innerB s).data.toList = (s.data.toList.take (s.size - 1)).drop 1 := by
  unfold innerB
  simp [ByteArray.data_extract, List.drop_take]
theorem shape_join {s : ByteArray} (h : shapeB s = true) : s.data.toList = 60 :: (innerB s).data.toList ++ [62] := by
  unfold shapeB at h
  rw [Bool.and_eq_true, Bool.and_eq_true, decide_eq_true_eq] at h
  obtain ⟨⟨h1, h2⟩, h3⟩ := h
  rw [inner_data, ← size_dl]
  refine ends_join (by rw [size_dl]; exact h1) (by simpa using h2) ?_
  rw [size_dl]; simpa using h3
theorem addr_notnull {u d : ByteArray} (h : addrB u d = true) : nullB u d = false := by
  unfold addrB wordB at h
  simp only [Bool.and_eq_true, decide_eq_true_eq] at h
  have : u.toList ≠ [] := by
    rw [Lib.toList_data]; intro e
    have := h.1.2.1
    rw [Lib.size_eq, e] at this
    simp at this
  unfold nullB
  rw [show u.toList.isEmpty = false by simpa [List.isEmpty_iff] using this, Bool.false_and]
theorem putB_null {u d : ByteArray} (h : nullB u d = true) : putB u d = { data := #[60, 62] } := by unfold putB; rw [if_pos h]
theorem putB_addr {u d : ByteArray} (h : addrB u d = true) : putB u d = wireB u d := by unfold putB; rw [addr_notnull h, h]; rfl
theorem putB_no {u d : ByteArray} (h1 : nullB u d = false) (h2 : addrB u d = false) : putB u d = { data := #[] } := by unfold putB; rw [h1, h2]; rfl

theorem getR_put {s u d : ByteArray} (h : getR s = (u, d, true)) : putB u d = s := by
  unfold getR at h
  by_cases hn : (s.toList == [60, 62]) = true
  · rw [if_pos hn] at h
    simp only [Prod.mk.injEq, and_true] at h
    obtain ⟨rfl, rfl⟩ := h
    rw [putB_null (by unfold nullB; rw [Lib.toList_data]; rfl)]
    have : s.toList = [60, 62] := by simpa using hn
    rw [Lib.toList_data] at this
    exact ba_ext (by rw [this])
  · rw [if_neg hn] at h
    by_cases hs : shapeB s = true
    · rw [if_pos hs] at h
      rcases Lib.indexB_cases (innerB s) (sep1 64) with hx | ⟨i, hx, _⟩
      · rw [twoR_miss hx] at h
        simp [noAddr] at h
      · rw [twoR_hit hx] at h
        obtain ⟨hl, hat⟩ := indexB_at hx
        split at h
        · rename_i ha
          simp only [Prod.mk.injEq, and_true] at h
          obtain ⟨rfl, rfl⟩ := h
          rw [putB_addr ha]
          refine ba_ext ?_
          rw [wire_data, shape_join hs, Lib.extract_from_zero, Lib.extract_to_end]
          have hi : i < (innerB s).data.toList.length := by rw [size_dl]; exact hl
          have e : (innerB s).data.toList.drop i = 64 :: (innerB s).data.toList.drop (i + 1) := by
            rw [List.drop_eq_getElem_cons hi]
            congr 1
            rw [List.getElem?_eq_getElem hi] at hat
            exact Option.some.inj hat
          rw [← e, List.take_append_drop]
        · simp [noAddr] at h
    · rw [if_neg hs] at h
      simp [noAddr] at h

theorem getR_wire {u d : ByteArray} (h : addrB u d = true) : getR (wireB u d) = (u, d, true) := by
  have hz := wire_size u d
  have hw : u.data.toList.all chB = true := by
    unfold addrB wordB at h
    simp only [Bool.and_eq_true] at h
    exact h.1.1
  have hn : ((wireB u d).toList == [60, 62]) = false := by
    rw [beq_eq_false_iff_ne, Lib.toList_data]
    intro e
    have := congrArg List.length e
    rw [size_dl, hz] at this
    simp at this
  have hs : shapeB (wireB u d) = true := by
    unfold shapeB
    rw [decide_eq_true (by omega), hz, wire_data]
    have e0 : (60 :: (u.data.toList ++ 64 :: d.data.toList)).length = u.size + d.size + 2 := by
      rw [List.length_cons, List.length_append, List.length_cons, size_dl, size_dl]; omega
    have e : (60 :: (u.data.toList ++ 64 :: d.data.toList) ++ [62])[u.size + d.size + 3 - 1]? = some 62 := by
      rw [List.getElem?_append_right (by omega), e0, show u.size + d.size + 3 - 1 - (u.size + d.size + 2) = 0 by omega]; rfl
    rw [e]; rfl
  have hin : (innerB (wireB u d)).data.toList = u.data.toList ++ 64 :: d.data.toList := by
    have := shape_join hs
    rw [wire_data] at this
    exact (List.cons.inj (List.append_cancel_right this)).2.symm
  have hx : Lib.indexB (innerB (wireB u d)) (sep1 64) = u.size := by
    refine indexB_first ?_ ?_
    · rw [hin, List.getElem?_append_right (by rw [size_dl]; exact Nat.le_refl _), size_dl, Nat.sub_self]; rfl
    · intro j _ hj e
      rw [hin, List.getElem?_append_left (by rw [size_dl]; exact hj)] at e
      rw [List.all_eq_true] at hw
      exact absurd (hw 64 (List.mem_of_getElem? e)) (by decide)
  rw [getR_yes hn hs, twoR_hit hx]
  have e1 : (innerB (wireB u d)).extract 0 u.size = u := ba_ext (by rw [Lib.extract_from_zero, hin, ← size_dl, List.take_left])
  have e2 : (innerB (wireB u d)).extract (u.size + 1) (innerB (wireB u d)).size = d := ba_ext (by rw [Lib.extract_to_end, hin, ← size_dl, List.drop_append]; simp)
  rw [e1, e2, if_pos h]

/-- What is written is read back, unless it is nothing. -/
theorem getR_putB {u d : ByteArray} (h : (nullB u d || addrB u d) = true) : getR (putB u d) = (u, d, true) := by
  by_cases hn : nullB u d = true
  · rw [putB_null hn, getR_null (by rw [Lib.toList_data]; rfl)]
    obtain ⟨h1, h2⟩ := nullB_true hn
    rw [Lib.toList_data] at h1 h2
    rw [show u = { data := #[] } from ba_ext h1, show d = { data := #[] } from ba_ext h2]
  · have ha : addrB u d = true := by simpa [hn] using h
    rw [putB_addr ha]
    exact getR_wire ha
end Go.Proofs.YtaobhhjdkdoceaaDoor
