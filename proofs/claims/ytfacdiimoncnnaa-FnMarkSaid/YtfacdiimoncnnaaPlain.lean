/- Plain facts on texts: words, domains, lines, cuts at a byte. No program in this text. -/
import Derived.Lib.Split
import Derived.Lib.IndexBytes
import Derived.WalkKit
namespace Go.Proofs.Ytfacdiimoncnnaa
open Go
/-- A letter that a word may have. -/
def chB (c : UInt8) : Bool := decide (97 ≤ c.toNat ∧ c.toNat ≤ 122) || decide (48 ≤ c.toNat ∧ c.toNat ≤ 57)
def wordB (s : ByteArray) : Bool := s.data.toList.all chB && decide (1 ≤ s.size ∧ s.size ≤ 8)
/-- A number lies within two others. -/
def inB (n lo hi : Int) : Bool := decide (lo ≤ n ∧ n ≤ hi)
theorem inB_true {n lo hi : Int} (h : lo ≤ n ∧ n ≤ hi) : inB n lo hi = true := decide_eq_true h
theorem inB_false {n lo hi : Int} (h : ¬ (lo ≤ n ∧ n ≤ hi)) : inB n lo hi = false := decide_eq_false h
theorem chB_true {c : UInt8} (h : (97 ≤ c.toNat ∧ c.toNat ≤ 122) ∨ (48 ≤ c.toNat ∧ c.toNat ≤ 57)) : chB c = true := by simpa [chB] using h
theorem chB_false {c : UInt8} (h : ¬ ((97 ≤ c.toNat ∧ c.toNat ≤ 122) ∨ (48 ≤ c.toNat ∧ c.toNat ≤ 57))) : chB c = false := by
  rw [← Bool.not_eq_true]; simpa [chB] using h
def sep1 (b : UInt8) : ByteArray := ⟨#[b]⟩
def piecesB (b : UInt8) (k : Nat) (s : ByteArray) : List ByteArray := Lib.splitB (sep1 b) 0 k s
def domB (s : ByteArray) : Bool := (piecesB 46 3 s).all wordB && decide ((piecesB 46 3 s).length ≤ 3)

theorem sep1_size (b : UInt8) : (sep1 b).size = 1 := rfl
theorem sep1_data (b : UInt8) : (sep1 b).data.toList = [b] := rfl

theorem indexB_sep1 (s : ByteArray) (b : UInt8) : Lib.indexB s (sep1 b) = Lib.indexByte s.data.toList b := Lib.index_one _ _

/-- What a scan for a byte knows at place i: none of it from place f on. -/
def NoneIn (b : UInt8) (s : ByteArray) (f i : Nat) : Prop := ∀ j, f ≤ j → j < i → s.data.toList[j]? ≠ some b

theorem indexB_first {s : ByteArray} {b : UInt8} {i : Nat} (hi : s.data.toList[i]? = some b) (hn : NoneIn b s 0 i) : Lib.indexB s (sep1 b) = i := by
  have hlt : i < s.data.toList.length := (List.getElem?_eq_some_iff.1 hi).1
  refine Lib.index_first (Nat.le_of_lt hlt) ?_ ?_
  · unfold Lib.occAt
    rw [sep1_data]
    have : s.data.toList.drop i = b :: s.data.toList.drop (i + 1) := by
      rw [List.drop_eq_getElem_cons hlt, (List.getElem?_eq_some_iff.1 hi).2]
    rw [this]; simp
  · intro j hj
    unfold Lib.occAt
    rw [sep1_data]
    have hjl : j < s.data.toList.length := by omega
    have := hn j (Nat.zero_le _) hj
    rw [List.getElem?_eq_getElem hjl] at this
    rw [List.drop_eq_getElem_cons hjl]
    simp only [List.isPrefixOf, Bool.and_true, beq_eq_false_iff_ne]
    exact fun e => this (by rw [e])

theorem indexB_none {s : ByteArray} {b : UInt8} (hn : NoneIn b s 0 s.size) : Lib.indexB s (sep1 b) = -1 := by
  refine Lib.index_none ?_
  intro j hj
  unfold Lib.occAt
  rw [sep1_data]
  by_cases hjl : j < s.data.toList.length
  · have := hn j (Nat.zero_le _) (by rw [Lib.size_eq]; exact hjl)
    rw [List.getElem?_eq_getElem hjl] at this
    rw [List.drop_eq_getElem_cons hjl]
    simp only [List.isPrefixOf, Bool.and_true, beq_eq_false_iff_ne]
    exact fun e => this (by rw [e])
  · rw [List.drop_of_length_le (by omega)]; rfl

theorem get_tail (s : ByteArray) (f j : Nat) : (s.extract f s.size).data.toList[j]? = s.data.toList[f + j]? := by
  rw [Lib.extract_to_end, List.getElem?_drop]

/-- THE SCAN: D the pieces so far, the next one begins at f, the scan stands at i. -/
def CutInv (b : UInt8) (most : Nat) (s : ByteArray) (i f : Nat) (D : List ByteArray) : Prop :=
  piecesB b most s = D ++ piecesB b (most - D.length) (s.extract f s.size) ∧ D.length ≤ most ∧ f ≤ i ∧ i ≤ s.size ∧ NoneIn b s f i ∧ D.length ≤ i

theorem cut_start (b : UInt8) (most : Nat) (s : ByteArray) : CutInv b most s 0 0 [] := by
  refine ⟨?_, Nat.zero_le _, Nat.le_refl _, Nat.zero_le _, fun j _ h => absurd h (by omega), Nat.zero_le _⟩
  rw [ByteArray.extract_zero_size]; rfl

theorem cut_skip {b : UInt8} {most : Nat} {s : ByteArray} {i f : Nat} {D : List ByteArray} (h : CutInv b most s i f D) (hi : i < s.size) (hc : s[i] ≠ b) : CutInv b most s (i + 1) f D := by
  obtain ⟨h1, h2, h3, h4, h5, h6⟩ := h
  refine ⟨h1, h2, by omega, by omega, fun j hj hj2 => ?_, by omega⟩
  by_cases e : j = i
  · subst e; rw [Lib.data_getElem? s j hi]; exact fun e => hc (Option.some.inj e)
  · exact h5 j hj (by omega)

theorem cut_hit {b : UInt8} {most : Nat} {s : ByteArray} {i f : Nat} {D : List ByteArray} (h : CutInv b most s i f D) (hi : i < s.size) (hm : D.length < most) (hc : s[i] = b) :
    CutInv b most s (i + 1) (i + 1) (D ++ [s.extract f i]) := by
  obtain ⟨h1, h2, h3, h4, h5, h6⟩ := h
  refine ⟨?_, by simp; omega, by omega, by omega, fun j hj hj2 => by omega, by simp; omega⟩
  obtain ⟨t, ht⟩ : ∃ t, most - D.length = t + 1 := ⟨most - D.length - 1, by omega⟩
  have hx : Lib.indexB (s.extract f s.size) (sep1 b) = (i - f : Nat) := by
    refine indexB_first ?_ ?_
    · rw [get_tail, show f + (i - f) = i by omega, Lib.data_getElem? s i hi, hc]
    · intro j _ hj
      rw [get_tail]
      exact h5 (f + j) (by omega) (by omega)
  rw [h1, ht]
  unfold piecesB
  rw [Lib.splitB_hit _ _ _ _ _ hx, List.append_assoc]
  congr 1
  rw [List.length_append, List.length_singleton, show most - (D.length + 1) = t by omega, sep1_size]
  simp only [List.singleton_append]
  have es : (s.extract f s.size).size = s.size - f := by rw [ByteArray.size_extract]; omega
  congr 1
  · rw [ByteArray.extract_extract]; congr 1 <;> omega
  · rw [es, ByteArray.extract_extract]; congr 2 <;> omega

theorem cut_end {b : UInt8} {most : Nat} {s : ByteArray} {i f : Nat} {D : List ByteArray} (h : CutInv b most s i f D) (hi : i = s.size ∨ D.length = most) : D ++ [s.extract f s.size] = piecesB b most s := by
  obtain ⟨h1, h2, h3, h4, h5, h6⟩ := h
  rw [h1]
  congr 1
  unfold piecesB
  rcases hi with hi | hi
  · subst hi
    refine (Lib.splitB_miss _ _ _ _ (indexB_none fun j _ hj => ?_)).symm
    rw [get_tail]
    rw [ByteArray.size_extract] at hj
    exact h5 (f + j) (by omega) (by omega)
  · rw [hi, Nat.sub_self]; rfl

theorem pieces_sat (b : UInt8) : ∀ (n k k' : Nat) (s : ByteArray), s.size ≤ n → n ≤ k → n ≤ k' → piecesB b k s = piecesB b k' s
  | 0, k, k', s, h, _, _ => by
    have : Lib.indexB s (sep1 b) = -1 := indexB_none fun j _ hj => by omega
    unfold piecesB
    rw [Lib.splitB_miss _ _ _ _ this, Lib.splitB_miss _ _ _ _ this]
  | n + 1, k, k', s, h, hk, hk' => by
    unfold piecesB
    rcases Lib.indexB_cases s (sep1 b) with e | ⟨i, e, hi⟩
    · rw [Lib.splitB_miss _ _ _ _ e, Lib.splitB_miss _ _ _ _ e]
    · obtain ⟨t, rfl⟩ : ∃ t, k = t + 1 := ⟨k - 1, by omega⟩
      obtain ⟨t', rfl⟩ : ∃ t, k' = t + 1 := ⟨k' - 1, by omega⟩
      rw [Lib.splitB_hit _ _ _ _ _ e, Lib.splitB_hit _ _ _ _ _ e]
      congr 1
      rw [sep1_size] at *
      exact pieces_sat b n t t' _ (by rw [ByteArray.size_extract]; omega) (by omega) (by omega)

/-- SplitN's limit is no limit beyond the text's length. -/
theorem pieces_min (b : UInt8) (k : Nat) (s : ByteArray) : Lib.splitB (sep1 b) 0 (min (k + 1) (s.size + 1) - 1) s = piecesB b k s := by
  by_cases h : k ≤ s.size
  · rw [show min (k + 1) (s.size + 1) - 1 = k by omega]; rfl
  · rw [show min (k + 1) (s.size + 1) - 1 = s.size by omega]
    exact pieces_sat b s.size s.size k s (Nat.le_refl _) (Nat.le_refl _) (by omega)


theorem wordB_miss {s : ByteArray} {k : Nat} (hk : k < s.size) (hc : chB s[k] = false) : wordB s = false := by
  unfold wordB
  rw [show s.data.toList.all chB = false from by
    rw [List.all_eq_false]
    exact ⟨s[k], by rw [List.mem_iff_getElem]; exact ⟨k, by simpa using hk, rfl⟩, by simp [hc]⟩]
  rfl
theorem wordB_end {s : ByteArray} {k : Nat} (hk : s.size ≤ k) (h : (s.data.toList.take k).all chB = true) : wordB s = inB s.size 1 8 := by
  unfold wordB inB
  rw [List.take_of_length_le (by simpa using hk)] at h
  rw [h, Bool.true_and, decide_eq_decide]; omega
theorem wordB_size {s : ByteArray} (h : ¬ (1 ≤ s.size ∧ s.size ≤ 8)) : wordB s = false := by
  unfold wordB; rw [decide_eq_false h, Bool.and_false]

theorem pieces_size (b : UInt8) : ∀ (k : Nat) (s x : ByteArray), x ∈ piecesB b k s → x.size ≤ s.size
  | 0, s, x, h => by
    unfold piecesB at h
    rw [Lib.splitB_zero, List.mem_singleton] at h
    rw [h]; exact Nat.le_refl _
  | k + 1, s, x, h => by
    unfold piecesB at h
    rcases Lib.indexB_cases s (sep1 b) with e | ⟨i, e, hi⟩
    · rw [Lib.splitB_miss _ _ _ _ e, List.mem_singleton] at h
      rw [h]; exact Nat.le_refl _
    · rw [Lib.splitB_hit _ _ _ _ _ e, List.mem_cons] at h
      rcases h with rfl | h
      · rw [ByteArray.size_extract]; omega
      · have := pieces_size b k _ x h
        rw [ByteArray.size_extract] at this; omega
theorem pieces_length (b : UInt8) (k : Nat) (s : ByteArray) : (piecesB b k s).length ≤ k + 1 := Lib.splitB_length_le _ _ _ _

theorem pieces_pos (b : UInt8) (k : Nat) (s : ByteArray) : 0 < (piecesB b k s).length := by
  unfold piecesB
  cases k with
  | zero => exact Nat.one_pos
  | succ k =>
    rcases Lib.indexB_cases s (sep1 b) with e | ⟨i, e, _⟩
    · rw [Lib.splitB_miss _ _ _ _ e]; exact Nat.one_pos
    · rw [Lib.splitB_hit _ _ _ _ _ e]; exact Nat.succ_pos _

/-! ### a test over a list, place by place -/
theorem list_all_succ {α : Type} {p : α → Bool} {l : List α} {k : Nat} {x : α} (hx : l[k]? = some x) (h : (l.take k).all p = true) (hc : p x = true) : (l.take (k + 1)).all p = true := by
  obtain ⟨hk, e⟩ := List.getElem?_eq_some_iff.1 hx
  rw [List.take_succ_eq_append_getElem hk, List.all_append, h, e]
  simp [hc]
theorem list_all_end {α : Type} {p : α → Bool} {l : List α} {k : Nat} (hk : l.length ≤ k) (h : (l.take k).all p = true) : l.all p = true := by
  rwa [List.take_of_length_le hk] at h
theorem list_all_miss {α : Type} {p : α → Bool} {l : List α} {k : Nat} {x : α} (hx : l[k]? = some x) (hc : p x = false) : l.all p = false := by
  rw [List.all_eq_false]
  exact ⟨x, List.mem_of_getElem? hx, by simp [hc]⟩
theorem domB_miss {s : ByteArray} {k : Nat} {x : ByteArray} (hx : (piecesB 46 3 s)[k]? = some x) (hc : wordB x = false) : domB s = false := by
  unfold domB; rw [list_all_miss hx hc]; rfl
theorem domB_end {s : ByteArray} {k : Nat} (hk : (piecesB 46 3 s).length ≤ k) (h : ((piecesB 46 3 s).take k).all wordB = true) : domB s = decide (((piecesB 46 3 s).length : Int) ≤ 3) := by
  unfold domB; rw [list_all_end hk h, Bool.true_and, decide_eq_decide]; omega
theorem domB_many {s : ByteArray} (h : 3 < (piecesB 46 3 s).length) : domB s = false := by
  unfold domB; rw [decide_eq_false (by omega), Bool.and_false]

/-! ### lines -/
def lineC (c : UInt8) : Bool := decide (32 ≤ c.toNat ∧ c.toNat ≤ 126)
def lineB (s : ByteArray) : Bool := s.data.toList.all lineC && decide (s.size ≤ 40)

theorem all_take_succ {p : UInt8 → Bool} {s : ByteArray} {k : Nat} (hk : k < s.size) (h : (s.data.toList.take k).all p = true) (hc : p s[k] = true) : (s.data.toList.take (k + 1)).all p = true := by
  rw [List.take_succ_eq_append_getElem (by simpa using hk), List.all_append, h, show s.data.toList[k]'(by simpa using hk) = s[k] from rfl]
  simp [hc]
theorem all_take_end {p : UInt8 → Bool} {s : ByteArray} {k : Nat} (hk : s.size ≤ k) (h : (s.data.toList.take k).all p = true) : s.data.toList.all p = true := by
  rwa [List.take_of_length_le (by simpa using hk)] at h
theorem all_miss {p : UInt8 → Bool} {s : ByteArray} {k : Nat} (hk : k < s.size) (hc : p s[k] = false) : s.data.toList.all p = false := by
  rw [List.all_eq_false]
  exact ⟨s[k], by rw [List.mem_iff_getElem]; exact ⟨k, by simpa using hk, rfl⟩, by simp [hc]⟩
theorem lineB_miss {s : ByteArray} {k : Nat} (hk : k < s.size) (hc : lineC s[k] = false) : lineB s = false := by
  unfold lineB; rw [all_miss hk hc]; rfl
theorem lineB_end {s : ByteArray} {k : Nat} (hk : s.size ≤ k) (h : (s.data.toList.take k).all lineC = true) : lineB s = decide (s.size ≤ 40) := by
  unfold lineB; rw [all_take_end hk h]; rfl
theorem lineB_size {s : ByteArray} (h : 40 < s.size) : lineB s = false := by
  unfold lineB; rw [decide_eq_false (by omega), Bool.and_false]
theorem lineC_true {c : UInt8} (h : 32 ≤ c.toNat ∧ c.toNat ≤ 126) : lineC c = true := decide_eq_true h
theorem lineC_false {c : UInt8} (h : ¬ (32 ≤ c.toNat ∧ c.toNat ≤ 126)) : lineC c = false := decide_eq_false h

/-! ### bodies -/
def bodyB (xs : List ByteArray) : Bool := xs.all lineB && decide (xs.length ≤ 12)
theorem bodyB_miss {xs : List ByteArray} {k : Nat} {x : ByteArray} (hx : xs[k]? = some x) (hc : lineB x = false) : bodyB xs = false := by
  unfold bodyB; rw [list_all_miss hx hc]; rfl
theorem bodyB_end {xs : List ByteArray} {k : Nat} (hk : xs.length ≤ k) (h : (xs.take k).all lineB = true) : bodyB xs = decide ((xs.length : Int) ≤ 12) := by
  unfold bodyB; rw [list_all_end hk h, Bool.true_and, decide_eq_decide]; omega
theorem bodyB_many {xs : List ByteArray} (h : 12 < xs.length) : bodyB xs = false := by
  unfold bodyB; rw [decide_eq_false (by omega), Bool.and_false]

/-! ### sizes -/
def sumB (xs : List ByteArray) : Nat := (xs.map ByteArray.size).sum
theorem sumB_snoc {xs : List ByteArray} {k : Nat} {x : ByteArray} (hx : xs[k]? = some x) : sumB (xs.take (k + 1)) = sumB (xs.take k) + x.size := by
  obtain ⟨hk, e⟩ := List.getElem?_eq_some_iff.1 hx
  unfold sumB
  rw [List.take_succ_eq_append_getElem hk, List.map_append, List.sum_append, e]
  simp
theorem sumB_take_le (xs : List ByteArray) (k : Nat) : sumB (xs.take k) ≤ sumB xs := by
  have : sumB xs = sumB (xs.take k) + sumB (xs.drop k) := by
    unfold sumB; rw [← List.sum_append, ← List.map_append, List.take_append_drop]
  omega
theorem sumB_mem {xs : List ByteArray} {x : ByteArray} (h : x ∈ xs) : x.size ≤ sumB xs := by
  induction xs with
  | nil => cases h
  | cons y ys ih =>
    unfold sumB at ih ⊢
    rw [List.map_cons, List.sum_cons]
    rcases List.mem_cons.1 h with rfl | h
    · omega
    · have := ih h; omega

/-! ### a text that ends with a point and another one -/
def dotEnd (s t : ByteArray) : Bool := Lib.hasSuffix s.data.toList (46 :: t.data.toList)
def endB (s t : ByteArray) : Bool := (s.toList == t.toList) || dotEnd s t
theorem dotEnd_eq (s t : ByteArray) : dotEnd s t = (decide (t.size + 1 ≤ s.size) && (s.data.toList.drop (s.size - (t.size + 1)) == 46 :: t.data.toList)) := by
  unfold dotEnd
  rw [← Lib.hasSuffix_of_drop, List.length_cons, ← Lib.size_eq, ← Lib.size_eq]
theorem dotEnd_short {s t : ByteArray} (h : s.size ≤ t.size) : dotEnd s t = false := by
  rw [dotEnd_eq, decide_eq_false (by omega), Bool.false_and]
theorem drop_split {s t : ByteArray} (h : t.size < s.size) : s.data.toList.drop (s.size - (t.size + 1)) = s[s.size - t.size - 1] :: s.data.toList.drop (s.size - t.size) := by
  have hl : s.size - (t.size + 1) < s.data.toList.length := by rw [← Lib.size_eq]; omega
  rw [List.drop_eq_getElem_cons hl]
  congr 1
  congr 1
  omega
theorem dotEnd_miss {s t : ByteArray} (h : t.size < s.size) (h1 : ¬ (s.extract (s.size - t.size) s.size).toList = t.toList) : dotEnd s t = false := by
  rw [dotEnd_eq, drop_split h]
  rw [Lib.toList_data, Lib.toList_data, Lib.extract_to_end] at h1
  have : (s[s.size - t.size - 1] :: s.data.toList.drop (s.size - t.size) == 46 :: t.data.toList) = false := by
    rw [beq_eq_false_iff_ne]; intro e; injection e with _ e; exact h1 e
  rw [this, Bool.and_false]
theorem dotEnd_hit {s t : ByteArray} (h : t.size < s.size) (h1 : (s.extract (s.size - t.size) s.size).toList = t.toList) : dotEnd s t = ((s[s.size - t.size - 1].toNat : Int) == 46) := by
  rw [dotEnd_eq, drop_split h, decide_eq_true (by omega), Bool.true_and]
  rw [Lib.toList_data, Lib.toList_data, Lib.extract_to_end] at h1
  rw [h1, Bool.eq_iff_iff, beq_iff_eq, beq_iff_eq]
  constructor
  · intro e; injection e with e _; rw [e]; rfl
  · intro e
    have : s[s.size - t.size - 1] = 46 := UInt8.toNat_inj.1 (by simpa using (by omega : s[s.size - t.size - 1].toNat = 46))
    rw [this]
theorem endB_ne {s t : ByteArray} (h : (s.toList == t.toList) = false) : endB s t = dotEnd s t := by unfold endB; rw [h, Bool.false_or]
theorem endB_eq {s t : ByteArray} (h : (s.toList == t.toList) = true) : endB s t = true := by unfold endB; rw [h, Bool.true_or]
def inDomB (s t : ByteArray) : Bool := domB s && domB t && endB s t
end Go.Proofs.Ytfacdiimoncnnaa
