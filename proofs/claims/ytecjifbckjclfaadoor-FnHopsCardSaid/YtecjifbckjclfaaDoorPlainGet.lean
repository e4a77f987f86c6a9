/- Plain facts: reading an address. No program in this text. -/
import Derived.Test.YtecjifbckjclfaaDoorPlainAddr
import Derived.Lib.Strings
import Derived.Lib.CutLaws
namespace Go.Proofs.YtecjifbckjclfaaDoor
open Go

def shapeB (s : ByteArray) : Bool := decide (2 ≤ s.size) && (s.data.toList[0]? == some 60) && (s.data.toList[s.size - 1]? == some 62)
def innerB (s : ByteArray) : ByteArray := s.extract 1 (s.size - 1)
def noAddr : ByteArray × ByteArray × Bool := ({ data := #[] }, { data := #[] }, false)
def twoR : List ByteArray → ByteArray × ByteArray × Bool
  | [u, d] => if addrB u d then (u, d, true) else noAddr
  | _ => noAddr
/-- An address read: user, domain, whether it is one. -/
def getR (s : ByteArray) : ByteArray × ByteArray × Bool :=
  if s.toList == [60, 62] then ({ data := #[] }, { data := #[] }, true) else if shapeB s then twoR (piecesB 64 2 (innerB s)) else noAddr

theorem indexB_at {s : ByteArray} {b : UInt8} {i : Nat} (h : Lib.indexB s (sep1 b) = i) : i < s.size ∧ s.data.toList[i]? = some b := by
  have h' : Lib.index s.data.toList (sep1 b).data.toList = i := h
  rcases Lib.index_spec s.data.toList (sep1 b).data.toList with ⟨e, _⟩ | ⟨j, e, _, ho, _⟩
  · omega
  · obtain rfl : j = i := by omega
    have h2 := Lib.occAt_head (sub := (sep1 b).data.toList) (t := []) rfl ho
    have := (List.getElem?_eq_some_iff.1 h2).1
    exact ⟨by rw [Lib.size_eq]; exact this, h2⟩

theorem pieces_chars : ∀ (k : Nat) (s : ByteArray), (piecesB 46 k s).all wordB = true → ∀ c ∈ s.data.toList, chB c = true ∨ c = 46
  | 0, s, h, c, hc => by
    unfold piecesB at h
    rw [Lib.splitB_zero, List.all_cons, List.all_nil, Bool.and_true] at h
    unfold wordB at h
    rw [Bool.and_eq_true, List.all_eq_true] at h
    exact .inl (h.1 c hc)
  | k + 1, s, h, c, hc => by
    unfold piecesB at h
    rcases Lib.indexB_cases s (sep1 46) with e | ⟨i, e, _⟩
    · rw [Lib.splitB_miss _ _ _ _ e, List.all_cons, List.all_nil, Bool.and_true] at h
      unfold wordB at h
      rw [Bool.and_eq_true, List.all_eq_true] at h
      exact .inl (h.1 c hc)
    · obtain ⟨hi, hat⟩ := indexB_at e
      rw [Lib.splitB_hit _ _ _ _ _ e, List.all_cons, Bool.and_eq_true, Nat.add_zero] at h
      have h1 := h.1
      unfold wordB at h1
      rw [Bool.and_eq_true, List.all_eq_true, Lib.extract_from_zero] at h1
      have h2 := pieces_chars k _ h.2
      rw [sep1_size, Lib.extract_to_end] at h2
      have hl : i < s.data.toList.length := by rw [← Lib.size_eq]; exact hi
      have split : s.data.toList = s.data.toList.take i ++ s.data.toList[i] :: s.data.toList.drop (i + 1) := by
        rw [← List.drop_eq_getElem_cons hl, List.take_append_drop]
      rw [split, List.mem_append, List.mem_cons] at hc
      rcases hc with hc | rfl | hc
      · exact .inl (h1.1 c hc)
      · rw [List.getElem?_eq_getElem hl] at hat
        exact .inr (Option.some.inj hat)
      · exact h2 c hc
theorem dom_at {s : ByteArray} (h : 64 ∈ s.data.toList) : domB s = false := by
  cases e : domB s
  · rfl
  · unfold domB at e
    rw [Bool.and_eq_true] at e
    rcases pieces_chars 3 s e.1 64 h with h | h
    · exact absurd h (by decide)
    · exact absurd h (by decide)

theorem size_dl (s : ByteArray) : s.data.toList.length = s.size := (Lib.size_eq s).symm

theorem twoR_miss {p : ByteArray} (h : Lib.indexB p (sep1 64) = -1) : twoR (piecesB 64 2 p) = noAddr := by
  unfold piecesB
  rw [Lib.splitB_miss _ _ _ _ h]
  rfl
theorem twoR_hit {p : ByteArray} {i : Nat} (h : Lib.indexB p (sep1 64) = i) : twoR (piecesB 64 2 p) = if addrB (p.extract 0 i) (p.extract (i + 1) p.size) then (p.extract 0 i, p.extract (i + 1) p.size, true) else noAddr := by
  unfold piecesB
  rw [Lib.splitB_hit _ _ _ _ _ h, sep1_size, Nat.add_zero]
  rcases Lib.indexB_cases (p.extract (i + 1) p.size) (sep1 64) with e | ⟨j, e, _⟩
  · rw [Lib.splitB_miss _ _ _ _ e]
    rfl
  · have hm : 64 ∈ (p.extract (i + 1) p.size).data.toList := List.mem_of_getElem? (indexB_at e).2
    have hf : addrB (p.extract 0 i) (p.extract (i + 1) p.size) = false := by
      unfold addrB; rw [dom_at hm, Bool.and_false]
    rw [Lib.splitB_hit _ _ _ _ _ e, hf]
    rfl

/-- What the program reads step by step. -/
def opened (s : ByteArray) : Bool := Lib.hasPrefix s.data.toList [60]
def rest1 (s : ByteArray) : ByteArray := ⟨(Lib.trimPrefix s.data.toList [60]).toArray⟩
def closedB (p : ByteArray) : Bool := Lib.hasSuffix p.data.toList [62]
def rest2 (p : ByteArray) : ByteArray := ⟨(Lib.trimSuffix p.data.toList [62]).toArray⟩

theorem rest1_size (s : ByteArray) : (rest1 s).size ≤ s.size := by
  rw [Lib.size_eq, Lib.size_eq]
  unfold rest1 Lib.trimPrefix
  split <;> simp
theorem rest2_size (s : ByteArray) : (rest2 s).size ≤ s.size := by
  rw [Lib.size_eq, Lib.size_eq]
  unfold rest2 Lib.trimSuffix
  split
  · exact List.length_take_le' _ _
  · simp
theorem opened_iff (s : ByteArray) : opened s = (s.data.toList[0]? == some 60) := by
  unfold opened Lib.hasPrefix
  cases s.data.toList with
  | nil => rfl
  | cons a l =>
    rw [Bool.eq_iff_iff]
    simp [List.isPrefixOf]
    exact eq_comm
theorem rest1_yes {s : ByteArray} (h : opened s = true) : (rest1 s).data.toList = s.data.toList.drop 1 := by
  unfold opened at h
  unfold rest1 Lib.trimPrefix
  rw [if_pos h]; rfl
theorem closedB_iff (p : ByteArray) : closedB p = (decide (1 ≤ p.size) && (p.data.toList[p.size - 1]? == some 62)) := by
  unfold closedB
  rw [← Lib.hasSuffix_of_drop, size_dl]
  by_cases h : 1 ≤ p.size
  · have hl : p.size - 1 < p.data.toList.length := by rw [size_dl]; omega
    rw [show ([62] : List UInt8).length = 1 from rfl, List.drop_eq_getElem_cons hl, List.getElem?_eq_getElem hl, List.drop_of_length_le (by rw [size_dl]; omega)]
    congr 1
    rw [Bool.eq_iff_iff]; simp
  · rw [show ([62] : List UInt8).length = 1 from rfl, decide_eq_false h, Bool.false_and, Bool.false_and]
theorem rest2_yes {p : ByteArray} (h : closedB p = true) : (rest2 p).data.toList = p.data.toList.take (p.size - 1) := by
  unfold closedB at h
  unfold rest2 Lib.trimSuffix
  rw [if_pos h, size_dl]; rfl

theorem shape_steps (s : ByteArray) : shapeB s = (opened s && closedB (rest1 s)) := by
  unfold shapeB
  rw [opened_iff]
  cases ho : (s.data.toList[0]? == some 60)
  · simp
  · have ho' : opened s = true := (opened_iff s).trans ho
    have hd := rest1_yes ho'
    have h1 : 1 ≤ s.size := by
      rw [← size_dl]
      cases e : s.data.toList with
      | nil => rw [e] at ho; cases ho
      | cons a l => simp
    have hs : (rest1 s).size = s.size - 1 := by rw [← size_dl, hd, List.length_drop, size_dl]
    rw [closedB_iff, hd, hs, List.getElem?_drop, Bool.and_true, Bool.true_and]
    by_cases h2 : 2 ≤ s.size
    · rw [decide_eq_true h2, decide_eq_true (show 1 ≤ s.size - 1 by omega), show 1 + (s.size - 1 - 1) = s.size - 1 by omega]
    · rw [decide_eq_false h2, decide_eq_false (show ¬ 1 ≤ s.size - 1 by omega), Bool.false_and, Bool.false_and]
theorem inner_steps {s : ByteArray} (h : shapeB s = true) : rest2 (rest1 s) = innerB s := by
  rw [shape_steps, Bool.and_eq_true] at h
  apply ByteArray.ext
  apply Array.ext'
  have hs : (rest1 s).size = s.size - 1 := by rw [← size_dl, rest1_yes h.1, List.length_drop, size_dl]
  rw [rest2_yes h.2, rest1_yes h.1, hs]
  unfold innerB
  rw [Lib.extract_data]
theorem getR_null {s : ByteArray} (h : (s.toList == [60, 62]) = true) : getR s = ({ data := #[] }, { data := #[] }, true) := by
  unfold getR; rw [if_pos h]
theorem getR_no {s : ByteArray} (h : (s.toList == [60, 62]) = false) (hs : shapeB s = false) : getR s = noAddr := by
  unfold getR; rw [h, hs]; rfl
theorem getR_yes {s : ByteArray} (h : (s.toList == [60, 62]) = false) (hs : shapeB s = true) : getR s = twoR (piecesB 64 2 (innerB s)) := by
  unfold getR; rw [h, hs]; rfl

/-- What the cut at '@' gives, and what is read then. -/
theorem getR_steps (s : ByteArray) (hn : (s.toList == [60, 62]) = false) : ∃ u d f,
    (⟨(Lib.cut (rest2 (rest1 s)).data.toList [64]).1.toArray⟩ : ByteArray) = u ∧ (⟨(Lib.cut (rest2 (rest1 s)).data.toList [64]).2.1.toArray⟩ : ByteArray) = d ∧ (Lib.cut (rest2 (rest1 s)).data.toList [64]).2.2 = f ∧
    u.size ≤ s.size ∧ d.size ≤ s.size ∧ getR s = if opened s && closedB (rest1 s) && f && addrB u d then (u, d, true) else noAddr := by
  have hz : (rest2 (rest1 s)).size ≤ s.size := Nat.le_trans (rest2_size _) (rest1_size _)
  rcases Lib.indexB_cases (rest2 (rest1 s)) (sep1 64) with e | ⟨i, e, hi⟩
  · obtain ⟨h1, h2, h3⟩ := Lib.cutB_miss _ _ e
    refine ⟨_, _, _, h1, h2, h3, hz, Nat.zero_le _, ?_⟩
    rw [Bool.and_false, Bool.false_and, if_neg (by decide)]
    cases hs : shapeB s
    · exact getR_no hn hs
    · rw [getR_yes hn hs, ← inner_steps hs, twoR_miss e]
  · obtain ⟨h1, h2, h3⟩ := Lib.cutB_hit _ _ _ e
    refine ⟨_, _, _, h1, h2, h3, by rw [ByteArray.size_extract]; omega, by rw [ByteArray.size_extract]; omega, ?_⟩
    rw [Bool.and_true, ← shape_steps]
    cases hs : shapeB s
    · exact getR_no hn hs
    · rw [getR_yes hn hs, ← inner_steps hs, twoR_hit e, Bool.true_and]
      rfl
end Go.Proofs.YtecjifbckjclfaaDoor
