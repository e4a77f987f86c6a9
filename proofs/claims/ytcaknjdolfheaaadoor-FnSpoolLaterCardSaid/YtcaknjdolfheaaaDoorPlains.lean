/- Plain, PlainAddr, PlainDots, PlainLines, PlainGet, PlainDotGet, PlainRound, PlainMail, PlainPut, PlainMailGet, PlainMailGetI, PlainHead, PlainHop, PlainConf, PlainId. -/
import Derived.Lib.Split
import Derived.Lib.IndexBytes
import Derived.WalkKit
import Derived.Lib.Strings
import Derived.Lib.CutLaws
import Derived.Lib.IndexMore
import Derived.Lib.CountLaws
namespace Go.Proofs.YtcaknjdolfheaaaDoor
open Go
/-- A letter that a word may have. -/
def chB (c : UInt8) : Bool := decide (97 ≤ c.toNat ∧ c.toNat ≤ 122) || decide (48 ≤ c.toNat ∧ c.toNat ≤ 57)
def wordB (s : ByteArray) : Bool := s.data.toList.all chB && decide (1 ≤ s.size ∧ s.size ≤ 8)
/-- A number lies within two others. -/
def inB (n lo hi : Int) : Bool := decide (lo ≤ n ∧ n ≤ hi)
theorem inB_true {n lo hi : Int} (h : lo ≤ n ∧ n ≤ hi) : inB n lo hi = true := decide_eq_true h
theorem inB_false {n lo hi : Int} (h : ¬ (lo ≤ n ∧ n ≤ hi)) : inB n lo hi = false := decide_eq_false h
theorem chB_true {c : UInt8} (h : (97 ≤ c.toNat ∧ c.toNat ≤ 122) ∨ (48 ≤ c.toNat ∧ c.toNat ≤ 57)) : chB c = true := by simpa [chB] using h
theorem chB_false {c : UInt8} (h : ¬ ((97 ≤ c.toNat ∧ c.toNat ≤ 122) ∨ (48 ≤ c.toNat ∧ c.toNat ≤ 57))) : chB c = false := by
  rw [← Bool.not_eq_true]; simpa [chB] using h
def sep1 (b : UInt8) : ByteArray := ⟨#[b]⟩
def piecesB (b : UInt8) (k : Nat) (s : ByteArray) : List ByteArray := Lib.splitB (sep1 b) 0 k s
def domB (s : ByteArray) : Bool := (piecesB 46 3 s).all wordB && decide ((piecesB 46 3 s).length ≤ 3)

theorem sep1_size (b : UInt8) : (sep1 b).size = 1 := rfl
theorem sep1_data (b : UInt8) : (sep1 b).data.toList = [b] := rfl

theorem indexB_sep1 (s : ByteArray) (b : UInt8) : Lib.indexB s (sep1 b) = Lib.indexByte s.data.toList b := Lib.index_one _ _

/-- What a scan for a byte knows at place i: none of it from place f on. -/
def NoneIn (b : UInt8) (s : ByteArray) (f i : Nat) : Prop := ∀ j, f ≤ j → j < i → s.data.toList[j]? ≠ some b

theorem indexB_first {s : ByteArray} {b : UInt8} {i : Nat} (hi : s.data.toList[i]? = some b) (hn : NoneIn b s 0 i) : Lib.indexB s (sep1 b) = i := by
  have hlt : i < s.data.toList.length := (List.getElem?_eq_some_iff.1 hi).1
  refine Lib.index_first (Nat.le_of_lt hlt) ?_ ?_
  · unfold Lib.occAt
    rw [sep1_data]
    have : s.data.toList.drop i = b :: s.data.toList.drop (i + 1) := by
      rw [List.drop_eq_getElem_cons hlt, (List.getElem?_eq_some_iff.1 hi).2]
    rw [this]; simp
  · intro j hj
    unfold Lib.occAt
    rw [sep1_data]
    have hjl : j < s.data.toList.length := by omega
    have := hn j (Nat.zero_le _) hj
    rw [List.getElem?_eq_getElem hjl] at this
    rw [List.drop_eq_getElem_cons hjl]
    simp only [List.isPrefixOf, Bool.and_true, beq_eq_false_iff_ne]
    exact fun e => this (by rw [e])

theorem indexB_none {s : ByteArray} {b : UInt8} (hn : NoneIn b s 0 s.size) : Lib.indexB s (sep1 b) = -1 := by
  refine Lib.index_none ?_
  intro j hj
  unfold Lib.occAt
  rw [sep1_data]
  by_cases hjl : j < s.data.toList.length
  · have := hn j (Nat.zero_le _) (by rw [Lib.size_eq]; exact hjl)
    rw [List.getElem?_eq_getElem hjl] at this
    rw [List.drop_eq_getElem_cons hjl]
    simp only [List.isPrefixOf, Bool.and_true, beq_eq_false_iff_ne]
    exact fun e => this (by rw [e])
  · rw [List.drop_of_length_le (by omega)]; rfl

theorem get_tail (s : ByteArray) (f j : Nat) : (s.extract f s.size).data.toList[j]? = s.data.toList[f + j]? := by
  rw [Lib.extract_to_end, List.getElem?_drop]

/-- THE SCAN: D the pieces so far, the next one begins at f, the scan stands at i. -/
def CutInv (b : UInt8) (most : Nat) (s : ByteArray) (i f : Nat) (D : List ByteArray) : Prop :=
  piecesB b most s = D ++ piecesB b (most - D.length) (s.extract f s.size) ∧ D.length ≤ most ∧ f ≤ i ∧ i ≤ s.size ∧ NoneIn b s f i ∧ D.length ≤ i

theorem cut_start (b : UInt8) (most : Nat) (s : ByteArray) : CutInv b most s 0 0 [] := by
  refine ⟨?_, Nat.zero_le _, Nat.le_refl _, Nat.zero_le _, fun j _ h => absurd h (by omega), Nat.zero_le _⟩
  rw [ByteArray.extract_zero_size]; rfl

theorem cut_skip {b : UInt8} {most : Nat} {s : ByteArray} {i f : Nat} {D : List ByteArray} (h : CutInv b most s i f D) (hi : i < s.size) (hc : s[i] ≠ b) : CutInv b most s (i + 1) f D := by
  obtain ⟨h1, h2, h3, h4, h5, h6⟩ := h
  refine ⟨h1, h2, by omega, by omega, fun j hj hj2 => ?_, by omega⟩
  by_cases e : j = i
  · subst e; rw [Lib.data_getElem? s j hi]; exact fun e => hc (Option.some.inj e)
  · exact h5 j hj (by omega)

theorem cut_hit {b : UInt8} {most : Nat} {s : ByteArray} {i f : Nat} {D : List ByteArray} (h : CutInv b most s i f D) (hi : i < s.size) (hm : D.length < most) (hc : s[i] = b) :
    CutInv b most s (i + 1) (i + 1) (D ++ [s.extract f i]) := by
  obtain ⟨h1, h2, h3, h4, h5, h6⟩ := h
  refine ⟨?_, by simp; omega, by omega, by omega, fun j hj hj2 => by omega, by simp; omega⟩
  obtain ⟨t, ht⟩ : ∃ t, most - D.length = t + 1 := ⟨most - D.length - 1, by omega⟩
  have hx : Lib.indexB (s.extract f s.size) (sep1 b) = (i - f : Nat) := by
    refine indexB_first ?_ ?_
    · rw [get_tail, show f + (i - f) = i by omega, Lib.data_getElem? s i hi, hc]
    · intro j _ hj
      rw [get_tail]
      exact h5 (f + j) (by omega) (by omega)
  rw [h1, ht]
  unfold piecesB
  rw [Lib.splitB_hit _ _ _ _ _ hx, List.append_assoc]
  congr 1
  rw [List.length_append, List.length_singleton, show most - (D.length + 1) = t by omega, sep1_size]
  simp only [List.singleton_append]
  have es : (s.extract f s.size).size = s.size - f := by rw [ByteArray.size_extract]; omega
  congr 1
  · rw [ByteArray.extract_extract]; congr 1 <;> omega
  · rw [es, ByteArray.extract_extract]; congr 2 <;> omega

theorem cut_end {b : UInt8} {most : Nat} {s : ByteArray} {i f : Nat} {D : List ByteArray} (h : CutInv b most s i f D) (hi : i = s.size ∨ D.length = most) : D ++ [s.extract f s.size] = piecesB b most s := by
  obtain ⟨h1, h2, h3, h4, h5, h6⟩ := h
  rw [h1]
  congr 1
  unfold piecesB
  rcases hi with hi | hi
  · subst hi
    refine (Lib.splitB_miss _ _ _ _ (indexB_none fun j _ hj => ?_)).symm
    rw [get_tail]
    rw [ByteArray.size_extract] at hj
    exact h5 (f + j) (by omega) (by omega)
  · rw [hi, Nat.sub_self]; rfl

theorem pieces_sat (b : UInt8) : ∀ (n k k' : Nat) (s : ByteArray), s.size ≤ n → n ≤ k → n ≤ k' → piecesB b k s = piecesB b k' s
  | 0, k, k', s, h, _, _ => by
    have : Lib.indexB s (sep1 b) = -1 := indexB_none fun j _ hj => by omega
    unfold piecesB
    rw [Lib.splitB_miss _ _ _ _ this, Lib.splitB_miss _ _ _ _ this]
  | n + 1, k, k', s, h, hk, hk' => by
    unfold piecesB
    rcases Lib.indexB_cases s (sep1 b) with e | ⟨i, e, hi⟩
    · rw [Lib.splitB_miss _ _ _ _ e, Lib.splitB_miss _ _ _ _ e]
    · obtain ⟨t, rfl⟩ : ∃ t, k = t + 1 := ⟨k - 1, by omega⟩
      obtain ⟨t', rfl⟩ : ∃ t, k' = t + 1 := ⟨k' - 1, by omega⟩
      rw [Lib.splitB_hit _ _ _ _ _ e, Lib.splitB_hit _ _ _ _ _ e]
      congr 1
      rw [sep1_size] at *
      exact pieces_sat b n t t' _ (by rw [ByteArray.size_extract]; omega) (by omega) (by omega)

/-- SplitN's limit is no limit beyond the text's length. -/
theorem pieces_min (b : UInt8) (k : Nat) (s : ByteArray) : Lib.splitB (sep1 b) 0 (min (k + 1) (s.size + 1) - 1) s = piecesB b k s := by
  by_cases h : k ≤ s.size
  · rw [show min (k + 1) (s.size + 1) - 1 = k by omega]; rfl
  · rw [show min (k + 1) (s.size + 1) - 1 = s.size by omega]
    exact pieces_sat b s.size s.size k s (Nat.le_refl _) (Nat.le_refl _) (by omega)


theorem wordB_miss {s : ByteArray} {k : Nat} (hk : k < s.size) (hc : chB s[k] = false) : wordB s = false := by
  unfold wordB
  rw [show s.data.toList.all chB = false from by
    rw [List.all_eq_false]
    exact ⟨s[k], by rw [List.mem_iff_getElem]; exact ⟨k, by simpa using hk, rfl⟩, by simp [hc]⟩]
  rfl
theorem wordB_end {s : ByteArray} {k : Nat} (hk : s.size ≤ k) (h : (s.data.toList.take k).all chB = true) : wordB s = inB s.size 1 8 := by
  unfold wordB inB
  rw [List.take_of_length_le (by simpa using hk)] at h
  rw [h, Bool.true_and, decide_eq_decide]; omega
theorem wordB_size {s : ByteArray} (h : ¬ (1 ≤ s.size ∧ s.size ≤ 8)) : wordB s = false := by
  unfold wordB; rw [decide_eq_false h, Bool.and_false]

theorem pieces_size (b : UInt8) : ∀ (k : Nat) (s x : ByteArray), x ∈ piecesB b k s → x.size ≤ s.size
  | 0, s, x, h => by
    unfold piecesB at h
    rw [Lib.splitB_zero, List.mem_singleton] at h
    rw [h]; exact Nat.le_refl _
  | k + 1, s, x, h => by
    unfold piecesB at h
    rcases Lib.indexB_cases s (sep1 b) with e | ⟨i, e, hi⟩
    · rw [Lib.splitB_miss _ _ _ _ e, List.mem_singleton] at h
      rw [h]; exact Nat.le_refl _
    · rw [Lib.splitB_hit _ _ _ _ _ e, List.mem_cons] at h
      rcases h with rfl | h
      · rw [ByteArray.size_extract]; omega
      · have := pieces_size b k _ x h
        rw [ByteArray.size_extract] at this; omega
theorem pieces_length (b : UInt8) (k : Nat) (s : ByteArray) : (piecesB b k s).length ≤ k + 1 := Lib.splitB_length_le _ _ _ _

theorem pieces_pos (b : UInt8) (k : Nat) (s : ByteArray) : 0 < (piecesB b k s).length := by
  unfold piecesB
  cases k with
  | zero => exact Nat.one_pos
  | succ k =>
    rcases Lib.indexB_cases s (sep1 b) with e | ⟨i, e, _⟩
    · rw [Lib.splitB_miss _ _ _ _ e]; exact Nat.one_pos
    · rw [Lib.splitB_hit _ _ _ _ _ e]; exact Nat.succ_pos _

/-! ### a test over a list, place by place -/
theorem list_all_succ {α : Type} {p : α → Bool} {l : List α} {k : Nat} {x : α} (hx : l[k]? = some x) (h : (l.take k).all p = true) (hc : p x = true) : (l.take (k + 1)).all p = true := by
  obtain ⟨hk, e⟩ := List.getElem?_eq_some_iff.1 hx
  rw [List.take_succ_eq_append_getElem hk, List.all_append, h, e]
  simp [hc]
theorem list_all_end {α : Type} {p : α → Bool} {l : List α} {k : Nat} (hk : l.length ≤ k) (h : (l.take k).all p = true) : l.all p = true := by
  rwa [List.take_of_length_le hk] at h
theorem list_all_miss {α : Type} {p : α → Bool} {l : List α} {k : Nat} {x : α} (hx : l[k]? = some x) (hc : p x = false) : l.all p = false := by
  rw [List.all_eq_false]
  exact ⟨x, List.mem_of_getElem? hx, by simp [hc]⟩
theorem domB_miss {s : ByteArray} {k : Nat} {x : ByteArray} (hx : (piecesB 46 3 s)[k]? = some x) (hc : wordB x = false) : domB s = false := by
  unfold domB; rw [list_all_miss hx hc]; rfl
theorem domB_end {s : ByteArray} {k : Nat} (hk : (piecesB 46 3 s).length ≤ k) (h : ((piecesB 46 3 s).take k).all wordB = true) : domB s = decide (((piecesB 46 3 s).length : Int) ≤ 3) := by
  unfold domB; rw [list_all_end hk h, Bool.true_and, decide_eq_decide]; omega
theorem domB_many {s : ByteArray} (h : 3 < (piecesB 46 3 s).length) : domB s = false := by
  unfold domB; rw [decide_eq_false (by omega), Bool.and_false]

/-! ### lines -/
def lineC (c : UInt8) : Bool := decide (32 ≤ c.toNat ∧ c.toNat ≤ 126)
def lineB (s : ByteArray) : Bool := s.data.toList.all lineC && decide (s.size ≤ 40)

theorem all_take_succ {p : UInt8 → Bool} {s : ByteArray} {k : Nat} (hk : k < s.size) (h : (s.data.toList.take k).all p = true) (hc : p s[k] = true) : (s.data.toList.take (k + 1)).all p = true := by
  rw [List.take_succ_eq_append_getElem (by simpa using hk), List.all_append, h, show s.data.toList[k]'(by simpa using hk) = s[k] from rfl]
  simp [hc]
theorem all_take_end {p : UInt8 → Bool} {s : ByteArray} {k : Nat} (hk : s.size ≤ k) (h : (s.data.toList.take k).all p = true) : s.data.toList.all p = true := by
  rwa [List.take_of_length_le (by simpa using hk)] at h
theorem all_miss {p : UInt8 → Bool} {s : ByteArray} {k : Nat} (hk : k < s.size) (hc : p s[k] = false) : s.data.toList.all p = false := by
  rw [List.all_eq_false]
  exact ⟨s[k], by rw [List.mem_iff_getElem]; exact ⟨k, by simpa using hk, rfl⟩, by simp [hc]⟩
theorem lineB_miss {s : ByteArray} {k : Nat} (hk : k < s.size) (hc : lineC s[k] = false) : lineB s = false := by
  unfold lineB; rw [all_miss hk hc]; rfl
theorem lineB_end {s : ByteArray} {k : Nat} (hk : s.size ≤ k) (h : (s.data.toList.take k).all lineC = true) : lineB s = decide (s.size ≤ 40) := by
  unfold lineB; rw [all_take_end hk h]; rfl
theorem lineB_size {s : ByteArray} (h : 40 < s.size) : lineB s = false := by
  unfold lineB; rw [decide_eq_false (by omega), Bool.and_false]
theorem lineC_true {c : UInt8} (h : 32 ≤ c.toNat ∧ c.toNat ≤ 126) : lineC c = true := decide_eq_true h
theorem lineC_false {c : UInt8} (h : ¬ (32 ≤ c.toNat ∧ c.toNat ≤ 126)) : lineC c = false := decide_eq_false h

/-! ### bodies -/
def bodyB (xs : List ByteArray) : Bool := xs.all lineB && decide (xs.length ≤ 12)
theorem bodyB_miss {xs : List ByteArray} {k : Nat} {x : ByteArray} (hx : xs[k]? = some x) (hc : lineB x = false) : bodyB xs = false := by
  unfold bodyB; rw [list_all_miss hx hc]; rfl
theorem bodyB_end {xs : List ByteArray} {k : Nat} (hk : xs.length ≤ k) (h : (xs.take k).all lineB = true) : bodyB xs = decide ((xs.length : Int) ≤ 12) := by
  unfold bodyB; rw [list_all_end hk h, Bool.true_and, decide_eq_decide]; omega
theorem bodyB_many {xs : List ByteArray} (h : 12 < xs.length) : bodyB xs = false := by
  unfold bodyB; rw [decide_eq_false (by omega), Bool.and_false]

/-! ### sizes -/
def sumB (xs : List ByteArray) : Nat := (xs.map ByteArray.size).sum
theorem sumB_snoc {xs : List ByteArray} {k : Nat} {x : ByteArray} (hx : xs[k]? = some x) : sumB (xs.take (k + 1)) = sumB (xs.take k) + x.size := by
  obtain ⟨hk, e⟩ := List.getElem?_eq_some_iff.1 hx
  unfold sumB
  rw [List.take_succ_eq_append_getElem hk, List.map_append, List.sum_append, e]
  simp
theorem sumB_take_le (xs : List ByteArray) (k : Nat) : sumB (xs.take k) ≤ sumB xs := by
  have : sumB xs = sumB (xs.take k) + sumB (xs.drop k) := by
    unfold sumB; rw [← List.sum_append, ← List.map_append, List.take_append_drop]
  omega
theorem sumB_mem {xs : List ByteArray} {x : ByteArray} (h : x ∈ xs) : x.size ≤ sumB xs := by
  induction xs with
  | nil => cases h
  | cons y ys ih =>
    unfold sumB at ih ⊢
    rw [List.map_cons, List.sum_cons]
    rcases List.mem_cons.1 h with rfl | h
    · omega
    · have := ih h; omega

/-! ### a text that ends with a point and another one -/
def dotEnd (s t : ByteArray) : Bool := Lib.hasSuffix s.data.toList (46 :: t.data.toList)
def endB (s t : ByteArray) : Bool := (s.toList == t.toList) || dotEnd s t
theorem dotEnd_eq (s t : ByteArray) : dotEnd s t = (decide (t.size + 1 ≤ s.size) && (s.data.toList.drop (s.size - (t.size + 1)) == 46 :: t.data.toList)) := by
  unfold dotEnd
  rw [← Lib.hasSuffix_of_drop, List.length_cons, ← Lib.size_eq, ← Lib.size_eq]
theorem dotEnd_short {s t : ByteArray} (h : s.size ≤ t.size) : dotEnd s t = false := by
  rw [dotEnd_eq, decide_eq_false (by omega), Bool.false_and]
theorem drop_split {s t : ByteArray} (h : t.size < s.size) : s.data.toList.drop (s.size - (t.size + 1)) = s[s.size - t.size - 1] :: s.data.toList.drop (s.size - t.size) := by
  have hl : s.size - (t.size + 1) < s.data.toList.length := by rw [← Lib.size_eq]; omega
  rw [List.drop_eq_getElem_cons hl]
  congr 1
  congr 1
  omega
theorem dotEnd_miss {s t : ByteArray} (h : t.size < s.size) (h1 : ¬ (s.extract (s.size - t.size) s.size).toList = t.toList) : dotEnd s t = false := by
  rw [dotEnd_eq, drop_split h]
  rw [Lib.toList_data, Lib.toList_data, Lib.extract_to_end] at h1
  have : (s[s.size - t.size - 1] :: s.data.toList.drop (s.size - t.size) == 46 :: t.data.toList) = false := by
    rw [beq_eq_false_iff_ne]; intro e; injection e with _ e; exact h1 e
  rw [this, Bool.and_false]
theorem dotEnd_hit {s t : ByteArray} (h : t.size < s.size) (h1 : (s.extract (s.size - t.size) s.size).toList = t.toList) : dotEnd s t = ((s[s.size - t.size - 1].toNat : Int) == 46) := by
  rw [dotEnd_eq, drop_split h, decide_eq_true (by omega), Bool.true_and]
  rw [Lib.toList_data, Lib.toList_data, Lib.extract_to_end] at h1
  rw [h1, Bool.eq_iff_iff, beq_iff_eq, beq_iff_eq]
  constructor
  · intro e; injection e with e _; rw [e]; rfl
  · intro e
    have : s[s.size - t.size - 1] = 46 := UInt8.toNat_inj.1 (by simpa using (by omega : s[s.size - t.size - 1].toNat = 46))
    rw [this]
theorem endB_ne {s t : ByteArray} (h : (s.toList == t.toList) = false) : endB s t = dotEnd s t := by unfold endB; rw [h, Bool.false_or]
theorem endB_eq {s t : ByteArray} (h : (s.toList == t.toList) = true) : endB s t = true := by unfold endB; rw [h, Bool.true_or]
def inDomB (s t : ByteArray) : Bool := domB s && domB t && endB s t
end Go.Proofs.YtcaknjdolfheaaaDoor
namespace Go.Proofs.YtcaknjdolfheaaaDoor
open Go

/-! ### addresses -/
def nullB (u d : ByteArray) : Bool := u.toList.isEmpty && d.toList.isEmpty
def addrB (u d : ByteArray) : Bool := wordB u && domB d
def wireB (u d : ByteArray) : ByteArray := { data := #[60] } ++ u ++ { data := #[64] } ++ d ++ { data := #[62] }
/-- Of an address, or of nobody's: as it is written. -/
def l1PutB (u d : ByteArray) : ByteArray := if nullB u d then { data := #[60, 62] } else wireB u d
def putB (u d : ByteArray) : ByteArray := if nullB u d then { data := #[60, 62] } else if addrB u d then wireB u d else { data := #[] }
theorem nullB_true {u d : ByteArray} (h : nullB u d = true) : u.toList = [] ∧ d.toList = [] := by
  unfold nullB at h
  simpa [List.isEmpty_iff] using h
theorem nullB_false {u d : ByteArray} (h : nullB u d = false) : ¬ u.toList = [] ∨ (u.toList = [] ∧ ¬ d.toList = []) := by
  unfold nullB at h
  by_cases hu : u.toList = []
  · right
    refine ⟨hu, fun hd => ?_⟩
    rw [hu, hd] at h; simp at h
  · exact .inl hu
/-- Nobody's address is none. -/
theorem addrB_null {u d : ByteArray} (h : nullB u d = true) : addrB u d = false := by
  have hu := (nullB_true h).1
  have : u.size = 0 := by rw [Lib.size_eq, ← Lib.toList_data, hu]; rfl
  unfold addrB
  rw [wordB_size (by omega), Bool.false_and]
def leftA (u d : ByteArray) (left : Int) : Int := if (u.size : Int) + d.size ≤ left then left - u.size - d.size else -1
end Go.Proofs.YtcaknjdolfheaaaDoor
namespace Go.Proofs.YtcaknjdolfheaaaDoor
open Go

def dotted (s : ByteArray) : Bool := Lib.hasPrefix s.data.toList [46]
def dotLine (s : ByteArray) : List UInt8 := (if dotted s then [46] else []) ++ s.data.toList ++ [13, 10]
def dotsL (xs : List ByteArray) : List UInt8 := xs.flatMap dotLine
def dotsAll (xs : List ByteArray) : List UInt8 := dotsL xs ++ [46] ++ [13, 10]

theorem dotsL_snoc {xs : List ByteArray} {k : Nat} {x : ByteArray} (hx : xs[k]? = some x) : dotsL (xs.take (k + 1)) = dotsL (xs.take k) ++ dotLine x := by
  obtain ⟨hk, e⟩ := List.getElem?_eq_some_iff.1 hx
  unfold dotsL
  rw [List.take_succ_eq_append_getElem hk, List.flatMap_append, e]
  simp
theorem dotLine_length (s : ByteArray) : (dotLine s).length ≤ s.size + 3 := by
  unfold dotLine
  rw [Lib.size_eq]
  split <;> simp <;> omega
theorem dotsL_length {xs : List ByteArray} (hs : ∀ x ∈ xs, x.size ≤ 40) : (dotsL xs).length ≤ 43 * xs.length := by
  induction xs with
  | nil => simp [dotsL]
  | cons y ys ih =>
    have h1 := ih fun x hx => hs x (List.mem_cons_of_mem _ hx)
    have h2 := hs y List.mem_cons_self
    have h3 := dotLine_length y
    unfold dotsL at h1 ⊢
    rw [List.flatMap_cons, List.length_append, List.length_cons]
    omega
theorem dotsL_take {xs : List ByteArray} (hs : ∀ x ∈ xs, x.size ≤ 40) (k : Nat) : (dotsL (xs.take k)).length ≤ 43 * k := by
  have h := dotsL_length (xs := xs.take k) fun x hx => hs x (List.mem_of_mem_take hx)
  have := List.length_take_le k xs
  have h4 : 43 * (xs.take k).length ≤ 43 * k := Nat.mul_le_mul_left _ this
  omega

theorem dotted_true {s : ByteArray} (h : dotted s = true) : ∃ h0 : 0 < s.size, s[0] = 46 := by
  unfold dotted Lib.hasPrefix at h
  have h0 : 0 < s.size := by
    rw [Lib.size_eq]
    cases e : s.data.toList with
    | nil => rw [e] at h; simp at h
    | cons a l => simp
  refine ⟨h0, ?_⟩
  have e := Lib.data_getElem? s 0 h0
  cases e2 : s.data.toList with
  | nil => rw [e2] at e; cases e
  | cons a l =>
    rw [e2] at e h
    have ha : a = s[0] := by simpa using e
    simp at h
    rw [← ha, h]
theorem dotted_false {s : ByteArray} (h : dotted s = false) : s.toList = [] ∨ (¬ s.toList = [] ∧ ∃ h0 : 0 < s.size, s[0] ≠ 46) := by
  rw [Lib.toList_data]
  cases e2 : s.data.toList with
  | nil => exact .inl rfl
  | cons a l =>
    have h0 : 0 < s.size := by rw [Lib.size_eq, e2]; simp
    refine .inr ⟨by simp, h0, ?_⟩
    have e := Lib.data_getElem? s 0 h0
    rw [e2] at e
    have ha : a = s[0] := by simpa using e
    unfold dotted Lib.hasPrefix at h
    rw [e2] at h
    intro e3
    rw [← ha] at e3
    rw [e3] at h
    simp at h
theorem dotLine_yes {s : ByteArray} (h : dotted s = true) : dotLine s = [46] ++ s.data.toList ++ [13, 10] := by unfold dotLine; rw [h]; rfl
theorem dotLine_no {s : ByteArray} (h : dotted s = false) : dotLine s = s.data.toList ++ [13, 10] := by unfold dotLine; rw [h]; rfl
theorem str_eq {a : ByteArray} {l : List UInt8} (h : a.data.toList = l) : a = ⟨l.toArray⟩ := by
  apply ByteArray.ext
  apply Array.ext'
  simpa using h
theorem app_data (a b : ByteArray) : (a ++ b).data.toList = a.data.toList ++ b.data.toList := by simp
end Go.Proofs.YtcaknjdolfheaaaDoor
namespace Go.Proofs.YtcaknjdolfheaaaDoor
open Go

def crlf : ByteArray := { data := #[13, 10] }
def cutLines : Nat → ByteArray → List ByteArray × ByteArray
  | 0, s => ([], s)
  | f + 1, s => if Lib.indexB s crlf = -1 then ([], s) else
    ((s.extract 0 (Lib.indexB s crlf).toNat) :: (cutLines f (s.extract ((Lib.indexB s crlf).toNat + 2) s.size)).1, (cutLines f (s.extract ((Lib.indexB s crlf).toNat + 2) s.size)).2)
/-- The lines, and what is left. -/
def linesB (s : ByteArray) : List ByteArray := (cutLines s.size s).1
def leftOf (s : ByteArray) : ByteArray := (cutLines s.size s).2

theorem crlf_size : crlf.size = 2 := rfl
theorem crlf_data : crlf.data.toList = [13, 10] := rfl

theorem cutLines_none {s : ByteArray} (h : Lib.indexB s crlf = -1) : ∀ f, cutLines f s = ([], s)
  | 0 => rfl
  | f + 1 => by unfold cutLines; rw [if_pos h]
theorem cutLines_hit {s : ByteArray} {i : Nat} (h : Lib.indexB s crlf = i) (f : Nat) : cutLines (f + 1) s = (s.extract 0 i :: (cutLines f (s.extract (i + 2) s.size)).1, (cutLines f (s.extract (i + 2) s.size)).2) := by
  have e : (Lib.indexB s crlf).toNat = i := by omega
  rw [cutLines, if_neg (by omega), e]

theorem cutLines_fuel : ∀ (n f g : Nat) (s : ByteArray), s.size ≤ n → n ≤ f → n ≤ g → cutLines f s = cutLines g s
  | 0, f, g, s, h, _, _ => by
    have e : Lib.indexB s crlf = -1 := by
      rcases Lib.indexB_cases s crlf with e | ⟨i, _, hi⟩
      · exact e
      · rw [crlf_size] at hi; omega
    rw [cutLines_none e, cutLines_none e]
  | n + 1, f, g, s, h, hf, hg => by
    rcases Lib.indexB_cases s crlf with e | ⟨i, e, hi⟩
    · rw [cutLines_none e, cutLines_none e]
    · obtain ⟨f', rfl⟩ : ∃ t, f = t + 1 := ⟨f - 1, by omega⟩
      obtain ⟨g', rfl⟩ : ∃ t, g = t + 1 := ⟨g - 1, by omega⟩
      rw [crlf_size] at hi
      rw [cutLines_hit e, cutLines_hit e, cutLines_fuel n f' g' _ (by rw [ByteArray.size_extract]; omega) (by omega) (by omega)]

theorem linesB_none {s : ByteArray} (h : Lib.indexB s crlf = -1) : linesB s = [] ∧ leftOf s = s := by
  unfold linesB leftOf; rw [cutLines_none h]; exact ⟨rfl, rfl⟩
theorem linesB_hit {s : ByteArray} {i : Nat} (h : Lib.indexB s crlf = i) (hi : i + 2 ≤ s.size) : linesB s = s.extract 0 i :: linesB (s.extract (i + 2) s.size) ∧ leftOf s = leftOf (s.extract (i + 2) s.size) := by
  unfold linesB leftOf
  obtain ⟨f, hf⟩ : ∃ f, s.size = f + 1 := ⟨s.size - 1, by omega⟩
  have e : cutLines s.size s = (s.extract 0 i :: (cutLines f (s.extract (i + 2) s.size)).1, (cutLines f (s.extract (i + 2) s.size)).2) := by
    rw [show cutLines s.size s = cutLines (f + 1) s by rw [← hf]]; exact cutLines_hit h f
  have hz : (s.extract (i + 2) s.size).size ≤ f := by rw [ByteArray.size_extract]; omega
  rw [e, cutLines_fuel _ f (s.extract (i + 2) s.size).size _ (Nat.le_refl _) hz (Nat.le_refl _)]
  exact ⟨rfl, rfl⟩

/-- What the lines take of the text, their ends too. -/
def takes (D : List ByteArray) : Nat := (D.map fun x => x.size + 2).sum
theorem takes_snoc (D : List ByteArray) (x : ByteArray) : takes (D ++ [x]) = takes D + (x.size + 2) := by simp [takes]
theorem takes_nil : takes [] = 0 := rfl

/-- THE SCAN: D the lines so far, they take f bytes; the rest begins there. -/
def LineInv (s : ByteArray) (f : Nat) (D : List ByteArray) : Prop :=
  linesB s = D ++ linesB (s.extract f s.size) ∧ leftOf s = leftOf (s.extract f s.size) ∧ f = takes D ∧ f ≤ s.size ∧ D.length ≤ f

theorem line_start (s : ByteArray) : LineInv s 0 [] := by
  unfold LineInv
  rw [ByteArray.extract_zero_size]
  exact ⟨rfl, rfl, rfl, Nat.zero_le _, Nat.zero_le _⟩
theorem line_hit {s : ByteArray} {f i : Nat} {D : List ByteArray} (h : LineInv s f D) (hx : Lib.indexB (s.extract f s.size) crlf = i) (hi : f + i + 2 ≤ s.size) : LineInv s (f + i + 2) (D ++ [s.extract f (f + i)]) := by
  obtain ⟨h1, h2, h3, h4, h5⟩ := h
  have hz : (s.extract f s.size).size = s.size - f := by rw [ByteArray.size_extract]; omega
  obtain ⟨g1, g2⟩ := linesB_hit hx (by rw [hz]; omega)
  have e1 : (s.extract f s.size).extract 0 i = s.extract f (f + i) := by rw [ByteArray.extract_extract]; congr 1; omega
  have e2 : (s.extract f s.size).extract (i + 2) (s.extract f s.size).size = s.extract (f + i + 2) s.size := by rw [hz, ByteArray.extract_extract]; congr 1; omega
  rw [e1, e2] at g1
  rw [e2] at g2
  refine ⟨by rw [h1, g1, List.append_assoc]; rfl, h2.trans g2, ?_, hi, by simp; omega⟩
  rw [takes_snoc, ← h3, ByteArray.size_extract]; omega
theorem line_end {s : ByteArray} {f : Nat} {D : List ByteArray} (h : LineInv s f D) (hx : Lib.indexB (s.extract f s.size) crlf = -1) : linesB s = D ∧ leftOf s = s.extract f s.size := by
  obtain ⟨h1, h2, _⟩ := h
  obtain ⟨g1, g2⟩ := linesB_none hx
  rw [h1, h2, g1, g2, List.append_nil]
  exact ⟨rfl, rfl⟩

theorem occ_crlf (s : ByteArray) (j : Nat) : Lib.occAt s.data.toList crlf.data.toList j = true ↔ s.data.toList[j]? = some 13 ∧ s.data.toList[j + 1]? = some 10 := by
  unfold Lib.occAt
  rw [crlf_data, List.isPrefixOf_iff_prefix]
  constructor
  · rintro ⟨t, ht⟩
    have e : ∀ k, (s.data.toList.drop j)[k]? = s.data.toList[j + k]? := fun k => List.getElem?_drop
    have e0 := e 0
    rw [Nat.add_zero] at e0
    rw [← e0, ← e 1, ← ht]
    exact ⟨rfl, rfl⟩
  · rintro ⟨h0, h1⟩
    obtain ⟨l0, e0⟩ := List.getElem?_eq_some_iff.1 h0
    obtain ⟨l1, e1⟩ := List.getElem?_eq_some_iff.1 h1
    rw [List.drop_eq_getElem_cons l0, List.drop_eq_getElem_cons l1, e0, e1]
    exact ⟨_, rfl⟩

/-- None begins in [f, i). -/
def NoLine (s : ByteArray) (f i : Nat) : Prop := ∀ j, f ≤ j → j < i → ¬ (s.data.toList[j]? = some 13 ∧ s.data.toList[j + 1]? = some 10)
theorem index_here {s : ByteArray} {f i : Nat} (hf : f ≤ i) (h : s.data.toList[i]? = some 13 ∧ s.data.toList[i + 1]? = some 10) (hn : NoLine s f i) : Lib.indexB (s.extract f s.size) crlf = (i - f : Nat) := by
  have hg : ∀ j, (s.extract f s.size).data.toList[j]? = s.data.toList[f + j]? := fun j => get_tail s f j
  have hl : i < s.size := by rw [Lib.size_eq]; exact (List.getElem?_eq_some_iff.1 h.1).1
  refine Lib.index_first ?_ ?_ ?_
  · rw [← Lib.size_eq, ByteArray.size_extract]; omega
  · rw [occ_crlf, hg, hg, show f + (i - f) = i by omega, show f + (i - f + 1) = i + 1 by omega]; exact h
  · intro j hj
    rw [← Bool.not_eq_true, occ_crlf, hg, hg]
    exact hn (f + j) (by omega) (by omega)
theorem index_nowhere {s : ByteArray} {f : Nat} (hn : NoLine s f s.size) : Lib.indexB (s.extract f s.size) crlf = -1 := by
  have hg : ∀ j, (s.extract f s.size).data.toList[j]? = s.data.toList[f + j]? := fun j => get_tail s f j
  refine Lib.index_none ?_
  intro j _
  rw [← Bool.not_eq_true, occ_crlf, hg, hg]
  by_cases hj : f + j < s.size
  · exact hn (f + j) (by omega) hj
  · intro h
    have := (List.getElem?_eq_some_iff.1 h.1).1
    rw [← Lib.size_eq] at this
    omega
theorem noLine_skip {s : ByteArray} {f i : Nat} (h : NoLine s f i) (hi : ¬ (s.data.toList[i]? = some 13 ∧ s.data.toList[i + 1]? = some 10)) : NoLine s f (i + 1) := fun j hj hj2 => by
  by_cases e : j = i
  · subst e; exact hi
  · exact h j hj (by omega)
/-- At the last place but none begins. -/
theorem noLine_last {s : ByteArray} {f i : Nat} (h : NoLine s f i) (hi : s.size ≤ i + 1) : NoLine s f s.size := fun j hj hj2 => by
  by_cases e : j < i
  · exact h j hj e
  · rintro ⟨_, h1⟩
    have := (List.getElem?_eq_some_iff.1 h1).1
    rw [← Lib.size_eq] at this
    omega
/-- The rest's size. -/
theorem left_eq {s : ByteArray} {f : Nat} (hf : f ≤ s.size) : (s.extract f s.size).size = s.size - f := by rw [ByteArray.size_extract]; omega
theorem linesB_length (s : ByteArray) : ∀ {D : List ByteArray} {f : Nat}, LineInv s f D → D.length ≤ s.size := fun h => Nat.le_trans h.2.2.2.2 h.2.2.2.1
end Go.Proofs.YtcaknjdolfheaaaDoor
namespace Go.Proofs.YtcaknjdolfheaaaDoor
open Go

def shapeB (s : ByteArray) : Bool := decide (2 ≤ s.size) && (s.data.toList[0]? == some 60) && (s.data.toList[s.size - 1]? == some 62)
def innerB (s : ByteArray) : ByteArray := s.extract 1 (s.size - 1)
def noAddr : ByteArray × ByteArray × Bool := ({ data := #[] }, { data := #[] }, false)
def twoR : List ByteArray → ByteArray × ByteArray × Bool
  | [u, d] => if addrB u d then (u, d, true) else noAddr
  | _ => noAddr
/-- An address read: user, domain, whether it is one. -/
def getR (s : ByteArray) : ByteArray × ByteArray × Bool :=
  if s.toList == [60, 62] then ({ data := #[] }, { data := #[] }, true) else if shapeB s then twoR (piecesB 64 2 (innerB s)) else noAddr

theorem indexB_at {s : ByteArray} {b : UInt8} {i : Nat} (h : Lib.indexB s (sep1 b) = i) : i < s.size ∧ s.data.toList[i]? = some b := by
  have h' : Lib.index s.data.toList (sep1 b).data.toList = i := h
  rcases Lib.index_spec s.data.toList (sep1 b).data.toList with ⟨e, _⟩ | ⟨j, e, _, ho, _⟩
  · omega
  · obtain rfl : j = i := by omega
    have h2 := Lib.occAt_head (sub := (sep1 b).data.toList) (t := []) rfl ho
    have := (List.getElem?_eq_some_iff.1 h2).1
    exact ⟨by rw [Lib.size_eq]; exact this, h2⟩

theorem pieces_chars : ∀ (k : Nat) (s : ByteArray), (piecesB 46 k s).all wordB = true → ∀ c ∈ s.data.toList, chB c = true ∨ c = 46
  | 0, s, h, c, hc => by
    unfold piecesB at h
    rw [Lib.splitB_zero, List.all_cons, List.all_nil, Bool.and_true] at h
    unfold wordB at h
    rw [Bool.and_eq_true, List.all_eq_true] at h
    exact .inl (h.1 c hc)
  | k + 1, s, h, c, hc => by
    unfold piecesB at h
    rcases Lib.indexB_cases s (sep1 46) with e | ⟨i, e, _⟩
    · rw [Lib.splitB_miss _ _ _ _ e, List.all_cons, List.all_nil, Bool.and_true] at h
      unfold wordB at h
      rw [Bool.and_eq_true, List.all_eq_true] at h
      exact .inl (h.1 c hc)
    · obtain ⟨hi, hat⟩ := indexB_at e
      rw [Lib.splitB_hit _ _ _ _ _ e, List.all_cons, Bool.and_eq_true, Nat.add_zero] at h
      have h1 := h.1
      unfold wordB at h1
      rw [Bool.and_eq_true, List.all_eq_true, Lib.extract_from_zero] at h1
      have h2 := pieces_chars k _ h.2
      rw [sep1_size, Lib.extract_to_end] at h2
      have hl : i < s.data.toList.length := by rw [← Lib.size_eq]; exact hi
      have split : s.data.toList = s.data.toList.take i ++ s.data.toList[i] :: s.data.toList.drop (i + 1) := by
        rw [← List.drop_eq_getElem_cons hl, List.take_append_drop]
      rw [split, List.mem_append, List.mem_cons] at hc
      rcases hc with hc | rfl | hc
      · exact .inl (h1.1 c hc)
      · rw [List.getElem?_eq_getElem hl] at hat
        exact .inr (Option.some.inj hat)
      · exact h2 c hc
theorem dom_at {s : ByteArray} (h : 64 ∈ s.data.toList) : domB s = false := by
  cases e : domB s
  · rfl
  · unfold domB at e
    rw [Bool.and_eq_true] at e
    rcases pieces_chars 3 s e.1 64 h with h | h
    · exact absurd h (by decide)
    · exact absurd h (by decide)

theorem size_dl (s : ByteArray) : s.data.toList.length = s.size := (Lib.size_eq s).symm

theorem twoR_miss {p : ByteArray} (h : Lib.indexB p (sep1 64) = -1) : twoR (piecesB 64 2 p) = noAddr := by
  unfold piecesB
  rw [Lib.splitB_miss _ _ _ _ h]
  rfl
theorem twoR_hit {p : ByteArray} {i : Nat} (h : Lib.indexB p (sep1 64) = i) : twoR (piecesB 64 2 p) = if addrB (p.extract 0 i) (p.extract (i + 1) p.size) then (p.extract 0 i, p.extract (i + 1) p.size, true) else noAddr := by
  unfold piecesB
  rw [Lib.splitB_hit _ _ _ _ _ h, sep1_size, Nat.add_zero]
  rcases Lib.indexB_cases (p.extract (i + 1) p.size) (sep1 64) with e | ⟨j, e, _⟩
  · rw [Lib.splitB_miss _ _ _ _ e]
    rfl
  · have hm : 64 ∈ (p.extract (i + 1) p.size).data.toList := List.mem_of_getElem? (indexB_at e).2
    have hf : addrB (p.extract 0 i) (p.extract (i + 1) p.size) = false := by
      unfold addrB; rw [dom_at hm, Bool.and_false]
    rw [Lib.splitB_hit _ _ _ _ _ e, hf]
    rfl

/-- What the program reads step by step. -/
def opened (s : ByteArray) : Bool := Lib.hasPrefix s.data.toList [60]
def rest1 (s : ByteArray) : ByteArray := ⟨(Lib.trimPrefix s.data.toList [60]).toArray⟩
def closedB (p : ByteArray) : Bool := Lib.hasSuffix p.data.toList [62]
def rest2 (p : ByteArray) : ByteArray := ⟨(Lib.trimSuffix p.data.toList [62]).toArray⟩

theorem rest1_size (s : ByteArray) : (rest1 s).size ≤ s.size := by
  rw [Lib.size_eq, Lib.size_eq]
  unfold rest1 Lib.trimPrefix
  split <;> simp
theorem rest2_size (s : ByteArray) : (rest2 s).size ≤ s.size := by
  rw [Lib.size_eq, Lib.size_eq]
  unfold rest2 Lib.trimSuffix
  split
  · exact List.length_take_le' _ _
  · simp
theorem opened_iff (s : ByteArray) : opened s = (s.data.toList[0]? == some 60) := by
  unfold opened Lib.hasPrefix
  cases s.data.toList with
  | nil => rfl
  | cons a l =>
    rw [Bool.eq_iff_iff]
    simp [List.isPrefixOf]
    exact eq_comm
theorem rest1_yes {s : ByteArray} (h : opened s = true) : (rest1 s).data.toList = s.data.toList.drop 1 := by
  unfold opened at h
  unfold rest1 Lib.trimPrefix
  rw [if_pos h]; rfl
theorem closedB_iff (p : ByteArray) : closedB p = (decide (1 ≤ p.size) && (p.data.toList[p.size - 1]? == some 62)) := by
  unfold closedB
  rw [← Lib.hasSuffix_of_drop, size_dl]
  by_cases h : 1 ≤ p.size
  · have hl : p.size - 1 < p.data.toList.length := by rw [size_dl]; omega
    rw [show ([62] : List UInt8).length = 1 from rfl, List.drop_eq_getElem_cons hl, List.getElem?_eq_getElem hl, List.drop_of_length_le (by rw [size_dl]; omega)]
    congr 1
    rw [Bool.eq_iff_iff]; simp
  · rw [show ([62] : List UInt8).length = 1 from rfl, decide_eq_false h, Bool.false_and, Bool.false_and]
theorem rest2_yes {p : ByteArray} (h : closedB p = true) : (rest2 p).data.toList = p.data.toList.take (p.size - 1) := by
  unfold closedB at h
  unfold rest2 Lib.trimSuffix
  rw [if_pos h, size_dl]; rfl

theorem shape_steps (s : ByteArray) : shapeB s = (opened s && closedB (rest1 s)) := by
  unfold shapeB
  rw [opened_iff]
  cases ho : (s.data.toList[0]? == some 60)
  · simp
  · have ho' : opened s = true := (opened_iff s).trans ho
    have hd := rest1_yes ho'
    have h1 : 1 ≤ s.size := by
      rw [← size_dl]
      cases e : s.data.toList with
      | nil => rw [e] at ho; cases ho
      | cons a l => simp
    have hs : (rest1 s).size = s.size - 1 := by rw [← size_dl, hd, List.length_drop, size_dl]
    rw [closedB_iff, hd, hs, List.getElem?_drop, Bool.and_true, Bool.true_and]
    by_cases h2 : 2 ≤ s.size
    · rw [decide_eq_true h2, decide_eq_true (show 1 ≤ s.size - 1 by omega), show 1 + (s.size - 1 - 1) = s.size - 1 by omega]
    · rw [decide_eq_false h2, decide_eq_false (show ¬ 1 ≤ s.size - 1 by omega), Bool.false_and, Bool.false_and]
theorem inner_steps {s : ByteArray} (h : shapeB s = true) : rest2 (rest1 s) = innerB s := by
  rw [shape_steps, Bool.and_eq_true] at h
  apply ByteArray.ext
  apply Array.ext'
  have hs : (rest1 s).size = s.size - 1 := by rw [← size_dl, rest1_yes h.1, List.length_drop, size_dl]
  rw [rest2_yes h.2, rest1_yes h.1, hs]
  unfold innerB
  rw [Lib.extract_data]
theorem getR_null {s : ByteArray} (h : (s.toList == [60, 62]) = true) : getR s = ({ data := #[] }, { data := #[] }, true) := by
  unfold getR; rw [if_pos h]
theorem getR_no {s : ByteArray} (h : (s.toList == [60, 62]) = false) (hs : shapeB s = false) : getR s = noAddr := by
  unfold getR; rw [h, hs]; rfl
theorem getR_yes {s : ByteArray} (h : (s.toList == [60, 62]) = false) (hs : shapeB s = true) : getR s = twoR (piecesB 64 2 (innerB s)) := by
  unfold getR; rw [h, hs]; rfl

/-- What the cut at '@' gives, and what is read then. -/
theorem getR_steps (s : ByteArray) (hn : (s.toList == [60, 62]) = false) : ∃ u d f,
    (⟨(Lib.cut (rest2 (rest1 s)).data.toList [64]).1.toArray⟩ : ByteArray) = u ∧ (⟨(Lib.cut (rest2 (rest1 s)).data.toList [64]).2.1.toArray⟩ : ByteArray) = d ∧ (Lib.cut (rest2 (rest1 s)).data.toList [64]).2.2 = f ∧
    u.size ≤ s.size ∧ d.size ≤ s.size ∧ getR s = if opened s && closedB (rest1 s) && f && addrB u d then (u, d, true) else noAddr := by
  have hz : (rest2 (rest1 s)).size ≤ s.size := Nat.le_trans (rest2_size _) (rest1_size _)
  rcases Lib.indexB_cases (rest2 (rest1 s)) (sep1 64) with e | ⟨i, e, hi⟩
  · obtain ⟨h1, h2, h3⟩ := Lib.cutB_miss _ _ e
    refine ⟨_, _, _, h1, h2, h3, hz, Nat.zero_le _, ?_⟩
    rw [Bool.and_false, Bool.false_and, if_neg (by decide)]
    cases hs : shapeB s
    · exact getR_no hn hs
    · rw [getR_yes hn hs, ← inner_steps hs, twoR_miss e]
  · obtain ⟨h1, h2, h3⟩ := Lib.cutB_hit _ _ _ e
    refine ⟨_, _, _, h1, h2, h3, by rw [ByteArray.size_extract]; omega, by rw [ByteArray.size_extract]; omega, ?_⟩
    rw [Bool.and_true, ← shape_steps]
    cases hs : shapeB s
    · exact getR_no hn hs
    · rw [getR_yes hn hs, ← inner_steps hs, twoR_hit e, Bool.true_and]
      rfl
end Go.Proofs.YtcaknjdolfheaaaDoor
namespace Go.Proofs.YtcaknjdolfheaaaDoor
open Go

def mk (l : List UInt8) : ByteArray := ⟨l.toArray⟩
theorem mk_data (l : List UInt8) : (mk l).data.toList = l := rfl
theorem mk_of (s : ByteArray) : mk s.data.toList = s := by cases s; rfl
theorem mk_size (l : List UInt8) : (mk l).size = l.length := by rw [Lib.size_eq, mk_data]
theorem mk_eq {s : ByteArray} {l : List UInt8} (h : s.data.toList = l) : s = mk l := by rw [← h, mk_of]

theorem linesB_cons {x r : List UInt8} (h : 13 ∉ x) : linesB (mk (x ++ [13, 10] ++ r)) = mk x :: linesB (mk r) ∧ leftOf (mk (x ++ [13, 10] ++ r)) = leftOf (mk r) := by
  have hz : (mk (x ++ [13, 10] ++ r)).size = x.length + 2 + r.length := by rw [mk_size]; simp; omega
  have hi : Lib.indexB (mk (x ++ [13, 10] ++ r)) crlf = (x.length : Nat) := by
    refine Lib.index_first (by rw [mk_data]; simp) ?_ ?_
    · rw [occ_crlf, mk_data]
      refine ⟨?_, ?_⟩
      · rw [List.append_assoc, List.getElem?_append_right (Nat.le_refl _), Nat.sub_self]; rfl
      · rw [List.append_assoc, List.getElem?_append_right (by omega), show x.length + 1 - x.length = 1 by omega]; rfl
    · intro j hj
      rw [← Bool.not_eq_true, occ_crlf, mk_data]
      rintro ⟨e, _⟩
      rw [List.append_assoc, List.getElem?_append_left hj] at e
      exact h (List.mem_of_getElem? e)
  obtain ⟨h1, h2⟩ := linesB_hit hi (by omega)
  have e1 : (mk (x ++ [13, 10] ++ r)).extract 0 x.length = mk x := mk_eq (by rw [Lib.extract_from_zero, mk_data]; simp)
  have e2 : (mk (x ++ [13, 10] ++ r)).extract (x.length + 2) (mk (x ++ [13, 10] ++ r)).size = mk r := mk_eq (by
    rw [Lib.extract_to_end, mk_data, List.drop_append, List.length_append]
    simp)
  rw [e1, e2] at h1
  rw [e2] at h2
  exact ⟨h1, h2⟩

theorem lines_join (s : ByteArray) : s.data.toList = (linesB s).flatMap (fun x => x.data.toList ++ [13, 10]) ++ (leftOf s).data.toList := by
  have key : ∀ (n : Nat) (s : ByteArray), s.size ≤ n → s.data.toList = (linesB s).flatMap (fun x => x.data.toList ++ [13, 10]) ++ (leftOf s).data.toList := by
    intro n
    induction n with
    | zero =>
      intro s hs
      have hx : Lib.indexB s crlf = -1 := by
        rcases Lib.indexB_cases s crlf with e | ⟨i, _, hi⟩
        · exact e
        · rw [crlf_size] at hi; omega
      obtain ⟨e1, e2⟩ := linesB_none hx
      rw [e1, e2]; rfl
    | succ n ih =>
      intro s hs
      rcases Lib.indexB_cases s crlf with hx | ⟨i, hx, hi⟩
      · obtain ⟨e1, e2⟩ := linesB_none hx
        rw [e1, e2]; rfl
      · rw [crlf_size] at hi
        obtain ⟨e1, e2⟩ := linesB_hit hx hi
        have hr := ih (s.extract (i + 2) s.size) (by rw [ByteArray.size_extract]; omega)
        rw [e1, e2, List.flatMap_cons, List.append_assoc, ← hr, Lib.extract_from_zero, Lib.extract_to_end]
        have hat : s.data.toList[i]? = some 13 ∧ s.data.toList[i + 1]? = some 10 := by
          rw [← occ_crlf]
          rcases Lib.index_spec s.data.toList crlf.data.toList with ⟨e, _⟩ | ⟨j, e, _, ho, _⟩
          · have : Lib.index s.data.toList crlf.data.toList = i := hx
            omega
          · have : Lib.index s.data.toList crlf.data.toList = i := hx
            obtain rfl : j = i := by omega
            exact ho
        obtain ⟨l0, g0⟩ := List.getElem?_eq_some_iff.1 hat.1
        obtain ⟨l1, g1⟩ := List.getElem?_eq_some_iff.1 hat.2
        have : s.data.toList.drop i = 13 :: 10 :: s.data.toList.drop (i + 2) := by
          rw [List.drop_eq_getElem_cons l0, List.drop_eq_getElem_cons l1, g0, g1]
        rw [List.append_assoc, show ([13, 10] : List UInt8) ++ s.data.toList.drop (i + 2) = s.data.toList.drop i from this.symm, List.take_append_drop]
  exact key s.size s (Nat.le_refl _)

def strip (x : ByteArray) : ByteArray := if dotted x then x.extract 1 x.size else x
def undotOk (x : ByteArray) : Bool := !dotted x || Lib.hasPrefix x.data.toList [46, 46]
def outsB (s : ByteArray) : List ByteArray := (linesB s).dropLast.map strip
def dotGetR (s : ByteArray) : List ByteArray × Bool := if decide (s.size ≤ 800) && bodyB (outsB s) && (dotsAll (outsB s) == s.data.toList) then (outsB s, true) else ([], false)
def dotPre (y : ByteArray) : ByteArray := if dotted y then mk (46 :: y.data.toList) else y

theorem lineB_no13 {y : ByteArray} (h : lineB y = true) : 13 ∉ y.data.toList := by
  intro hm
  unfold lineB at h
  rw [Bool.and_eq_true, List.all_eq_true] at h
  exact absurd (h.1 13 hm) (by decide)
theorem dotLine_pre (y : ByteArray) : dotLine y = (dotPre y).data.toList ++ [13, 10] := by
  unfold dotLine dotPre
  split <;> simp [mk_data]
theorem lines_dots : ∀ (outs : List ByteArray), (∀ y ∈ outs, lineB y = true) → linesB (mk (dotsAll outs)) = outs.map dotPre ++ [mk [46]] ∧ leftOf (mk (dotsAll outs)) = mk []
  | [], _ => by
    have e : dotsAll [] = [46] ++ [13, 10] ++ [] := rfl
    obtain ⟨h1, h2⟩ := linesB_cons (x := [46]) (r := []) (by decide)
    have h0 : Lib.indexB (mk []) crlf = -1 := rfl
    obtain ⟨g1, g2⟩ := linesB_none h0
    rw [e, h1, h2, g1, g2]
    exact ⟨rfl, rfl⟩
  | y :: ys, h => by
    have e : dotsAll (y :: ys) = (dotPre y).data.toList ++ [13, 10] ++ dotsAll ys := by
      unfold dotsAll dotsL
      rw [List.flatMap_cons, dotLine_pre]
      simp
    have hy : 13 ∉ (dotPre y).data.toList := by
      have := lineB_no13 (h y List.mem_cons_self)
      unfold dotPre
      split
      · rw [mk_data, List.mem_cons]; rintro (e | e)
        · exact absurd e (by decide)
        · exact this e
      · exact this
    obtain ⟨h1, h2⟩ := linesB_cons (r := dotsAll ys) hy
    obtain ⟨g1, g2⟩ := lines_dots ys fun z hz => h z (List.mem_cons_of_mem _ hz)
    rw [e, h1, h2, g1, g2, mk_of]
    exact ⟨rfl, rfl⟩
theorem dotted_pre {y : ByteArray} (h : dotted y = true) : dotted (dotPre y) = true ∧ undotOk (dotPre y) = true ∧ strip (dotPre y) = y := by
  have hd : dotted (dotPre y) = true := by unfold dotPre; rw [if_pos h]; unfold dotted Lib.hasPrefix; rw [mk_data]; rfl
  refine ⟨hd, ?_, ?_⟩
  · unfold undotOk
    rw [hd]
    unfold dotPre
    rw [if_pos h, mk_data]
    unfold dotted Lib.hasPrefix at h
    unfold Lib.hasPrefix
    rw [List.isPrefixOf_cons_cons, h]; rfl
  · unfold strip
    rw [if_pos hd]
    unfold dotPre
    rw [if_pos h]
    apply ByteArray.ext
    apply Array.ext'
    rw [Lib.extract_to_end, mk_data]; rfl
theorem undot_pre (y : ByteArray) : undotOk (dotPre y) = true ∧ strip (dotPre y) = y := by
  cases h : dotted y
  · have e : dotPre y = y := by unfold dotPre; rw [h]; rfl
    rw [e]
    unfold undotOk strip
    rw [h]
    exact ⟨rfl, rfl⟩
  · exact ⟨(dotted_pre h).2.1, (dotted_pre h).2.2⟩
theorem pre_strip {x : ByteArray} (h : undotOk x = true) : dotPre (strip x) = x := by
  cases hd : dotted x
  · unfold strip dotPre
    rw [hd]; simp [hd]
  · unfold undotOk at h
    rw [hd] at h
    obtain ⟨h0, e0⟩ := dotted_true hd
    have hp : Lib.hasPrefix x.data.toList [46, 46] = true := by simpa using h
    cases e : x.data.toList with
    | nil => rw [e] at hp; cases hp
    | cons a l =>
      rw [e] at hp
      unfold Lib.hasPrefix at hp
      rw [List.isPrefixOf_cons_cons, Bool.and_eq_true] at hp
      have ha : a = 46 := ((by simpa using hp.1) : (46 : UInt8) = a).symm
      have hs : (strip x).data.toList = l := by
        unfold strip; rw [if_pos hd, Lib.extract_to_end, e]; rfl
      have hd2 : dotted (strip x) = true := by unfold dotted Lib.hasPrefix; rw [hs]; exact hp.2
      unfold dotPre
      rw [if_pos hd2, hs]
      exact (mk_eq (by rw [e, ha])).symm

/-- What the program asks: a last line of a dot alone, nothing left, each line as one that is sent. -/
def stepsOk (s : ByteArray) : Bool := decide ((linesB s).getLast? = some (mk [46])) && decide (leftOf s = mk []) && (linesB s).dropLast.all undotOk && bodyB (outsB s)

theorem dotGet_iff (s : ByteArray) : (bodyB (outsB s) && (dotsAll (outsB s) == s.data.toList)) = stepsOk s := by
  rw [Bool.eq_iff_iff]
  unfold stepsOk
  rw [Bool.and_eq_true, Bool.and_eq_true, Bool.and_eq_true, Bool.and_eq_true]
  constructor
  · rintro ⟨hb, hd⟩
    have hd' : dotsAll (outsB s) = s.data.toList := by simpa using hd
    have hl : ∀ y ∈ outsB s, lineB y = true := by
      unfold bodyB at hb
      rw [Bool.and_eq_true, List.all_eq_true] at hb
      exact hb.1
    obtain ⟨h1, h2⟩ := lines_dots (outsB s) hl
    rw [hd', mk_of] at h1 h2
    refine ⟨⟨⟨?_, ?_⟩, ?_⟩, hb⟩
    · rw [h1]; simp
    · rw [h2]; simp
    · rw [h1, List.dropLast_concat, List.all_eq_true]
      intro z hz
      obtain ⟨y, _, rfl⟩ := List.mem_map.1 hz
      exact (undot_pre y).1
  · rintro ⟨⟨⟨h1, h2⟩, h3⟩, hb⟩
    refine ⟨hb, ?_⟩
    have h1' : (linesB s).getLast? = some (mk [46]) := by simpa using h1
    have h2' : leftOf s = mk [] := by simpa using h2
    rw [List.all_eq_true] at h3
    have hL : linesB s = (linesB s).dropLast ++ [mk [46]] := by
      obtain ⟨ys, e⟩ := List.getLast?_eq_some_iff.1 h1'
      rw [e, List.dropLast_concat]
    have hj := lines_join s
    rw [hL, h2', List.flatMap_append, mk_data, List.append_nil] at hj
    rw [beq_iff_eq, hj]
    unfold dotsAll dotsL outsB
    rw [List.append_assoc]
    congr 1
    rw [List.flatMap_map]
    have : ∀ (l : List ByteArray), (∀ x ∈ l, undotOk x = true) → l.flatMap (fun x => dotLine (strip x)) = l.flatMap (fun x => x.data.toList ++ [13, 10]) := by
      intro l
      induction l with
      | nil => intro _; rfl
      | cons a l ih =>
        intro h
        rw [List.flatMap_cons, List.flatMap_cons, ih fun x hx => h x (List.mem_cons_of_mem _ hx), dotLine_pre, pre_strip (h a List.mem_cons_self)]
    exact this _ h3
theorem dotGetR_big {s : ByteArray} (h : 800 < s.size) : dotGetR s = ([], false) := by
  unfold dotGetR; rw [decide_eq_false (by omega), Bool.false_and]; rfl
theorem dotGetR_steps {s : ByteArray} (h : ¬ 800 < s.size) : dotGetR s = if stepsOk s then (outsB s, true) else ([], false) := by
  unfold dotGetR; rw [decide_eq_true (by omega), Bool.true_and, dotGet_iff]
end Go.Proofs.YtcaknjdolfheaaaDoor
namespace Go.Proofs.YtcaknjdolfheaaaDoor
open Go

theorem ba_extd {a b : ByteArray} (h : a.data.toList = b.data.toList) : a = b := by
  apply ByteArray.ext
  apply Array.ext'
  exact h
theorem wire_data (u d : ByteArray) : (wireB u d).data.toList = 60 :: (u.data.toList ++ 64 :: d.data.toList) ++ [62] := by
  unfold wireB; simp
theorem wire_size (u d : ByteArray) : (wireB u d).size = u.size + d.size + 3 := by
  unfold wireB
  simp only [ByteArray.size_append]
  show 1 + u.size + 1 + d.size + 1 = _
  omega
theorem ends_join : ∀ {l : List UInt8} {a z : UInt8}, 2 ≤ l.length → l[0]? = some a → l[l.length - 1]? = some z → l = a :: (l.take (l.length - 1)).drop 1 ++ [z]
  | [], _, _, h, _, _ => by simp at h
  | [_], _, _, h, _, _ => by simp at h
  | x :: y :: t, a, z, _, h0, h1 => by
    have e0 : x = a := by simpa using h0
    subst e0
    have hne : (y :: t) ≠ [] := by simp
    have e1 : (y :: t).getLast hne = z := by
      have : (y :: t)[(y :: t).length - 1]? = some z := by simpa using h1
      rw [← List.getLast?_eq_getElem?, List.getLast?_eq_some_getLast hne] at this
      exact Option.some.inj this
    have e2 : ((x :: y :: t).take ((x :: y :: t).length - 1)).drop 1 = (y :: t).dropLast := by
      rw [List.dropLast_eq_take]; simp
    rw [e2, ← e1, List.cons_append, List.dropLast_concat_getLast hne]
theorem inner_data (s : ByteArray) : (innerB s).data.toList = (s.data.toList.take (s.size - 1)).drop 1 := by
  unfold innerB
  simp [ByteArray.data_extract, List.drop_take]
theorem shape_join {s : ByteArray} (h : shapeB s = true) : s.data.toList = 60 :: (innerB s).data.toList ++ [62] := by
  unfold shapeB at h
  rw [Bool.and_eq_true, Bool.and_eq_true, decide_eq_true_eq] at h
  obtain ⟨⟨h1, h2⟩, h3⟩ := h
  rw [inner_data, ← size_dl]
  refine ends_join (by rw [size_dl]; exact h1) (by simpa using h2) ?_
  rw [size_dl]; simpa using h3
theorem addr_notnull {u d : ByteArray} (h : addrB u d = true) : nullB u d = false := by
  unfold addrB wordB at h
  simp only [Bool.and_eq_true, decide_eq_true_eq] at h
  have : u.toList ≠ [] := by
    rw [Lib.toList_data]; intro e
    have := h.1.2.1
    rw [Lib.size_eq, e] at this
    simp at this
  unfold nullB
  rw [show u.toList.isEmpty = false by simpa [List.isEmpty_iff] using this, Bool.false_and]
theorem putB_null {u d : ByteArray} (h : nullB u d = true) : putB u d = { data := #[60, 62] } := by unfold putB; rw [if_pos h]
theorem putB_addr {u d : ByteArray} (h : addrB u d = true) : putB u d = wireB u d := by unfold putB; rw [addr_notnull h, h]; rfl
theorem putB_no {u d : ByteArray} (h1 : nullB u d = false) (h2 : addrB u d = false) : putB u d = { data := #[] } := by unfold putB; rw [h1, h2]; rfl

theorem getR_put {s u d : ByteArray} (h : getR s = (u, d, true)) : putB u d = s := by
  unfold getR at h
  by_cases hn : (s.toList == [60, 62]) = true
  · rw [if_pos hn] at h
    simp only [Prod.mk.injEq, and_true] at h
    obtain ⟨rfl, rfl⟩ := h
    rw [putB_null (by unfold nullB; rw [Lib.toList_data]; rfl)]
    have : s.toList = [60, 62] := by simpa using hn
    rw [Lib.toList_data] at this
    exact ba_extd (by rw [this])
  · rw [if_neg hn] at h
    by_cases hs : shapeB s = true
    · rw [if_pos hs] at h
      rcases Lib.indexB_cases (innerB s) (sep1 64) with hx | ⟨i, hx, _⟩
      · rw [twoR_miss hx] at h
        simp [noAddr] at h
      · rw [twoR_hit hx] at h
        obtain ⟨hl, hat⟩ := indexB_at hx
        split at h
        · rename_i ha
          simp only [Prod.mk.injEq, and_true] at h
          obtain ⟨rfl, rfl⟩ := h
          rw [putB_addr ha]
          refine ba_extd ?_
          rw [wire_data, shape_join hs, Lib.extract_from_zero, Lib.extract_to_end]
          have hi : i < (innerB s).data.toList.length := by rw [size_dl]; exact hl
          have e : (innerB s).data.toList.drop i = 64 :: (innerB s).data.toList.drop (i + 1) := by
            rw [List.drop_eq_getElem_cons hi]
            congr 1
            rw [List.getElem?_eq_getElem hi] at hat
            exact Option.some.inj hat
          rw [← e, List.take_append_drop]
        · simp [noAddr] at h
    · rw [if_neg hs] at h
      simp [noAddr] at h

theorem getR_wire {u d : ByteArray} (h : addrB u d = true) : getR (wireB u d) = (u, d, true) := by
  have hz := wire_size u d
  have hw : u.data.toList.all chB = true := by
    unfold addrB wordB at h
    simp only [Bool.and_eq_true] at h
    exact h.1.1
  have hn : ((wireB u d).toList == [60, 62]) = false := by
    rw [beq_eq_false_iff_ne, Lib.toList_data]
    intro e
    have := congrArg List.length e
    rw [size_dl, hz] at this
    simp at this
  have hs : shapeB (wireB u d) = true := by
    unfold shapeB
    rw [decide_eq_true (by omega), hz, wire_data]
    have e0 : (60 :: (u.data.toList ++ 64 :: d.data.toList)).length = u.size + d.size + 2 := by
      rw [List.length_cons, List.length_append, List.length_cons, size_dl, size_dl]; omega
    have e : (60 :: (u.data.toList ++ 64 :: d.data.toList) ++ [62])[u.size + d.size + 3 - 1]? = some 62 := by
      rw [List.getElem?_append_right (by omega), e0, show u.size + d.size + 3 - 1 - (u.size + d.size + 2) = 0 by omega]; rfl
    rw [e]; rfl
  have hin : (innerB (wireB u d)).data.toList = u.data.toList ++ 64 :: d.data.toList := by
    have := shape_join hs
    rw [wire_data] at this
    exact (List.cons.inj (List.append_cancel_right this)).2.symm
  have hx : Lib.indexB (innerB (wireB u d)) (sep1 64) = u.size := by
    refine indexB_first ?_ ?_
    · rw [hin, List.getElem?_append_right (by rw [size_dl]; exact Nat.le_refl _), size_dl, Nat.sub_self]; rfl
    · intro j _ hj e
      rw [hin, List.getElem?_append_left (by rw [size_dl]; exact hj)] at e
      rw [List.all_eq_true] at hw
      exact absurd (hw 64 (List.mem_of_getElem? e)) (by decide)
  rw [getR_yes hn hs, twoR_hit hx]
  have e1 : (innerB (wireB u d)).extract 0 u.size = u := ba_extd (by rw [Lib.extract_from_zero, hin, ← size_dl, List.take_left])
  have e2 : (innerB (wireB u d)).extract (u.size + 1) (innerB (wireB u d)).size = d := ba_extd (by rw [Lib.extract_to_end, hin, ← size_dl, List.drop_append]; simp)
  rw [e1, e2, if_pos h]

/-- What is written is read back, unless it is nothing. -/
theorem getR_putB {u d : ByteArray} (h : (nullB u d || addrB u d) = true) : getR (putB u d) = (u, d, true) := by
  by_cases hn : nullB u d = true
  · rw [putB_null hn, getR_null (by rw [Lib.toList_data]; rfl)]
    obtain ⟨h1, h2⟩ := nullB_true hn
    rw [Lib.toList_data] at h1 h2
    rw [show u = { data := #[] } from ba_extd h1, show d = { data := #[] } from ba_extd h2]
  · have ha : addrB u d = true := by simpa [hn] using h
    rw [putB_addr ha]
    exact getR_wire ha
end Go.Proofs.YtcaknjdolfheaaaDoor
namespace Go.Proofs.YtcaknjdolfheaaaDoor
open Go

structure MailD where
  fu : ByteArray
  fd : ByteArray
  rc : List (ByteArray × ByteArray)
  body : List ByteArray
def senderB (u d : ByteArray) : Bool := nullB u d || addrB u d
def pairB (p : ByteArray × ByteArray) : Bool := addrB p.1 p.2
def toB (ps : List (ByteArray × ByteArray)) : Bool := decide (1 ≤ ps.length ∧ ps.length ≤ 4) && (ps.all pairB && decide ps.Nodup)
def mailB (m : MailD) : Bool := senderB m.fu m.fd && (toB m.rc && bodyB m.body)

theorem nodup_succ {α : Type} {ps : List α} {k : Nat} {p : α} (hp : ps[k]? = some p) (h : (ps.take k).Nodup) (hn : ∀ j, j < k → ps[j]? ≠ some p) : (ps.take (k + 1)).Nodup := by
  obtain ⟨hk, e⟩ := List.getElem?_eq_some_iff.1 hp
  rw [List.take_succ_eq_append_getElem hk, List.nodup_append]
  refine ⟨h, by simp, ?_⟩
  intro a ha b hb
  obtain ⟨j, hj, ej⟩ := List.getElem_of_mem ha
  rw [List.mem_singleton] at hb
  rw [List.length_take] at hj
  rw [List.getElem_take] at ej
  intro hab
  refine hn j (by omega) ?_
  rw [List.getElem?_eq_getElem (by omega), ej, hab, hb, e]
theorem nodup_miss {α : Type} {ps : List α} {j k : Nat} {p : α} (hp : ps[k]? = some p) (hj : ps[j]? = some p) (hjk : j < k) : ¬ ps.Nodup := by
  intro h
  obtain ⟨hk, e⟩ := List.getElem?_eq_some_iff.1 hp
  obtain ⟨hj', e'⟩ := List.getElem?_eq_some_iff.1 hj
  exact (List.pairwise_iff_getElem.1 h) j k hj' hk hjk (e'.trans e.symm)
theorem toB_miss {ps : List (ByteArray × ByteArray)} {k : Nat} {p : ByteArray × ByteArray} (hp : ps[k]? = some p) (hc : pairB p = false) : toB ps = false := by
  unfold toB; rw [list_all_miss hp hc]; simp
theorem toB_twice {ps : List (ByteArray × ByteArray)} {j k : Nat} {p : ByteArray × ByteArray} (hp : ps[k]? = some p) (hj : ps[j]? = some p) (hjk : j < k) : toB ps = false := by
  unfold toB; rw [decide_eq_false (nodup_miss hp hj hjk)]; simp
theorem toB_end {ps : List (ByteArray × ByteArray)} {k : Nat} (hk : ps.length ≤ k) (h : (ps.take k).all pairB = true) (hn : (ps.take k).Nodup) : toB ps = decide (1 ≤ ps.length ∧ ps.length ≤ 4) := by
  rw [List.take_of_length_le hk] at h hn
  unfold toB; rw [h, decide_eq_true hn]; simp
theorem toB_size {ps : List (ByteArray × ByteArray)} (h : ¬ (1 ≤ ps.length ∧ ps.length ≤ 4)) : toB ps = false := by
  unfold toB; rw [decide_eq_false h]; rfl
theorem mailB_to {m : MailD} (h : toB m.rc = false) : mailB m = false := by unfold mailB; rw [h]; simp
theorem senderB_false {u d : ByteArray} (h : senderB u d = false) : nullB u d = false ∧ addrB u d = false := by
  unfold senderB at h; simpa using h
theorem senderB_true {u d : ByteArray} (h : senderB u d = true) : addrB u d = true ∨ (nullB u d = true ∧ addrB u d = false) := by
  unfold senderB at h
  cases ha : addrB u d
  · rw [ha, Bool.or_false] at h; exact .inr ⟨h, rfl⟩
  · exact .inl rfl
end Go.Proofs.YtcaknjdolfheaaaDoor
namespace Go.Proofs.YtcaknjdolfheaaaDoor
open Go

def fromL (u d : ByteArray) : List UInt8 := [102, 114, 111, 109, 32] ++ (putB u d).data.toList ++ [13, 10]
def toL (p : ByteArray × ByteArray) : List UInt8 := [116, 111, 32] ++ (putB p.1 p.2).data.toList ++ [13, 10]
def headL (m : MailD) (k : Nat) : List UInt8 := fromL m.fu m.fd ++ (m.rc.take k).flatMap toL
def mailL (m : MailD) : List UInt8 := headL m m.rc.length ++ [13, 10] ++ dotsAll m.body
def mailPutB (m : MailD) : ByteArray := if mailB m then ⟨(mailL m).toArray⟩ else { data := #[] }
theorem headL_zero (m : MailD) : headL m 0 = fromL m.fu m.fd := by simp [headL]
theorem headL_snoc {m : MailD} {k : Nat} {p : ByteArray × ByteArray} (hp : m.rc[k]? = some p) : headL m (k + 1) = headL m k ++ toL p := by
  obtain ⟨hk, e⟩ := List.getElem?_eq_some_iff.1 hp
  unfold headL
  rw [List.take_succ_eq_append_getElem hk, List.flatMap_append, e, List.append_assoc]; simp
theorem l1PutB_sender {u d : ByteArray} (h : senderB u d = true) : l1PutB u d = putB u d := by
  unfold l1PutB putB
  rcases senderB_true h with ha | ⟨hn, _⟩
  · rw [ha]; rfl
  · rw [hn]; rfl
theorem l1PutB_addr {u d : ByteArray} (h : addrB u d = true) : l1PutB u d = putB u d := by
  unfold l1PutB putB; rw [h]; rfl
theorem putB_size (u d : ByteArray) : (putB u d).size ≤ u.size + d.size + 5 := by
  unfold putB wireB
  split
  · show 2 ≤ _; omega
  · split
    · simp only [ByteArray.size_append]
      show 1 + u.size + 1 + d.size + 1 ≤ _; omega
    · exact Nat.zero_le _
theorem mailB_parts {m : MailD} (h : mailB m = true) : senderB m.fu m.fd = true ∧ m.rc.length ≤ 4 ∧ (∀ p ∈ m.rc, addrB p.1 p.2 = true) ∧ bodyB m.body = true := by
  unfold mailB toB at h
  simp only [Bool.and_eq_true, decide_eq_true_eq, List.all_eq_true] at h
  exact ⟨h.1, h.2.1.1.2, fun p hp => h.2.1.2.1 p hp, h.2.2⟩
theorem mailPutB_no {m : MailD} (h : mailB m = false) : mailPutB m = { data := #[] } := by unfold mailPutB; rw [h]; rfl
theorem mailPutB_yes {m : MailD} (h : mailB m = true) : mailPutB m = ⟨(mailL m).toArray⟩ := by unfold mailPutB; rw [h]; rfl
end Go.Proofs.YtcaknjdolfheaaaDoor
namespace Go.Proofs.YtcaknjdolfheaaaDoor
open Go

abbrev TwoB := ByteArray × ByteArray
def fromT : List UInt8 := [102, 114, 111, 109, 32]
def toT : List UInt8 := [116, 111, 32]
/-- A line with a mark ahead and an address behind it. -/
def markedR (t : List UInt8) (x : ByteArray) : ByteArray × ByteArray × Bool := if Lib.hasPrefix x.data.toList t then getR (x.extract t.length x.size) else noAddr
def fromOk (x : ByteArray) : Bool := (markedR fromT x).2.2
def toOk (x : ByteArray) : Bool := (markedR toT x).2.2
def fromP (x : ByteArray) : TwoB := ((markedR fromT x).1, (markedR fromT x).2.1)
def toP (x : ByteArray) : TwoB := ((markedR toT x).1, (markedR toT x).2.1)
def whoOk (p : TwoB) : Bool := nullB p.1 p.2 || addrB p.1 p.2
def markL (t : List UInt8) (p : TwoB) : List UInt8 := t ++ (putB p.1 p.2).data.toList

theorem hasPrefix_app (t l : List UInt8) : Lib.hasPrefix (t ++ l) t = true := by
  unfold Lib.hasPrefix
  rw [List.isPrefixOf_iff_prefix]
  exact List.prefix_append t l
theorem markedR_line (t : List UInt8) {p : TwoB} (h : whoOk p = true) : markedR t (mk (markL t p)) = (p.1, p.2, true) := by
  unfold markedR markL
  rw [mk_data, if_pos (hasPrefix_app _ _)]
  have e : (mk (t ++ (putB p.1 p.2).data.toList)).extract t.length (mk (t ++ (putB p.1 p.2).data.toList)).size = putB p.1 p.2 := by
    refine ba_extd ?_
    rw [Lib.extract_to_end, mk_data, List.drop_left']
    rfl
  rw [e]
  exact getR_putB h
theorem noAddr_not {u d : ByteArray} : noAddr ≠ (u, d, true) := by unfold noAddr; simp
theorem getR_ok {s u d : ByteArray} (h : getR s = (u, d, true)) : whoOk (u, d) = true := by
  have hp := getR_put h
  cases h1 : nullB u d
  · cases h2 : addrB u d
    · rw [putB_no h1 h2] at hp
      rw [← hp] at h
      rw [show getR { data := #[] } = noAddr by decide +kernel] at h
      exact absurd h noAddr_not
    · unfold whoOk; simp [h2]
  · unfold whoOk; simp [h1]
theorem markedR_inv {t : List UInt8} {x u d : ByteArray} (h : markedR t x = (u, d, true)) : x.data.toList = markL t (u, d) ∧ whoOk (u, d) = true := by
  unfold markedR at h
  split at h
  · rename_i hp
    unfold Lib.hasPrefix at hp
    rw [List.isPrefixOf_iff_prefix] at hp
    obtain ⟨r, hr⟩ := hp
    refine ⟨?_, getR_ok h⟩
    have e := congrArg (fun b : ByteArray => b.data.toList) (getR_put h)
    simp only [Lib.extract_to_end] at e
    unfold markL
    rw [e, ← hr, List.drop_left']
    rfl
  · exact absurd h noAddr_not
theorem marked_ok {t : List UInt8} {x : ByteArray} (h : (markedR t x).2.2 = true) : x.data.toList = markL t ((markedR t x).1, (markedR t x).2.1) ∧ whoOk ((markedR t x).1, (markedR t x).2.1) = true :=
  markedR_inv (t := t) (x := x) (by rw [← h])
theorem from_line {p : TwoB} (h : whoOk p = true) : fromOk (mk (markL fromT p)) = true ∧ fromP (mk (markL fromT p)) = p := by
  unfold fromOk fromP
  rw [markedR_line _ h]
  exact ⟨rfl, rfl⟩
theorem to_line {p : TwoB} (h : whoOk p = true) : toOk (mk (markL toT p)) = true ∧ toP (mk (markL toT p)) = p := by
  unfold toOk toP
  rw [markedR_line _ h]
  exact ⟨rfl, rfl⟩

theorem chB_no13 {c : UInt8} (h : chB c = true) : c ≠ 13 := by rintro rfl; exact absurd h (by decide)
theorem word_no13 {s : ByteArray} (h : wordB s = true) : 13 ∉ s.data.toList := by
  unfold wordB at h
  rw [Bool.and_eq_true, List.all_eq_true] at h
  intro hm
  exact chB_no13 (h.1 13 hm) rfl
theorem dom_no13 {s : ByteArray} (h : domB s = true) : 13 ∉ s.data.toList := by
  unfold domB at h
  rw [Bool.and_eq_true] at h
  intro hm
  rcases pieces_chars 3 s h.1 13 hm with e | e
  · exact chB_no13 e rfl
  · exact absurd e (by decide)
theorem put_no13 {p : TwoB} (h : whoOk p = true) : 13 ∉ (putB p.1 p.2).data.toList := by
  cases h1 : nullB p.1 p.2
  · have h2 : addrB p.1 p.2 = true := by unfold whoOk at h; rw [h1] at h; exact h
    rw [putB_addr h2, wire_data]
    unfold addrB at h2
    rw [Bool.and_eq_true] at h2
    simp only [List.cons_append, List.mem_cons, List.mem_append, List.not_mem_nil, or_false]
    rintro (e | (e | e | e) | e)
    · exact absurd e (by decide)
    · exact word_no13 h2.1 e
    · exact absurd e (by decide)
    · exact dom_no13 h2.2 e
    · exact absurd e (by decide)
  · rw [putB_null h1]; decide
theorem markL_no13 {t : List UInt8} (ht : 13 ∉ t) {p : TwoB} (h : whoOk p = true) : 13 ∉ markL t p := by
  unfold markL
  rw [List.mem_append]
  rintro (e | e)
  · exact ht e
  · exact put_no13 h e
theorem fromL_eq (u d : ByteArray) : fromL u d = markL fromT (u, d) ++ [13, 10] := rfl
theorem toL_eq (p : TwoB) : toL p = markL toT p ++ [13, 10] := rfl

/-! ### what the model reads -/
def tosN (L : List ByteArray) : Nat := ((L.drop 1).takeWhile toOk).length
def firstOk (L : List ByteArray) : Bool := match L with | [] => false | x :: _ => fromOk x
def firstP (L : List ByteArray) : TwoB := match L with | [] => ({ data := #[] }, { data := #[] }) | x :: _ => fromP x
def headS (ls : List ByteArray) : Bool := firstOk ls && (decide (1 ≤ tosN ls) && decide (ls[1 + tosN ls]? = some (mk [])))
def tosOf (L : List ByteArray) : List TwoB := ((L.drop 1).takeWhile toOk).map toP
def headAt (L : List ByteArray) : Nat := takes (L.take (2 + tosN L))
def bodyOf (s : ByteArray) : ByteArray := s.extract (headAt (linesB s)) s.size
def parsed (s : ByteArray) : MailD := ⟨(firstP (linesB s)).1, (firstP (linesB s)).2, tosOf (linesB s), (dotGetR (bodyOf s)).1⟩
def noMail : MailD := ⟨{ data := #[] }, { data := #[] }, [], []⟩
/-- A mail of which this text is how it is written. -/
def writes (m : MailD) (s : ByteArray) : Bool := mailB m && (mailL m == s.data.toList)
def mailGetR (s : ByteArray) : MailD × Bool := if decide (s.size ≤ 800) && writes (parsed s) s then (parsed s, true) else (noMail, false)

theorem toOk_empty : toOk (mk []) = false := by decide +kernel
theorem takeWhile_app {α : Type} {p : α → Bool} {xs : List α} {y : α} {ys : List α} (h : xs.all p = true) (hy : p y = false) : (xs ++ y :: ys).takeWhile p = xs := by
  induction xs with
  | nil => rw [List.nil_append, List.takeWhile_cons, hy]; rfl
  | cons x xs ih =>
    rw [List.all_cons, Bool.and_eq_true] at h
    rw [List.cons_append, List.takeWhile_cons, h.1]
    simp only [if_true]
    rw [ih h.2]

theorem writes_parts {m : MailD} {s : ByteArray} (h : writes m s = true) : mailB m = true ∧ mailL m = s.data.toList := by
  unfold writes at h
  rw [Bool.and_eq_true, beq_iff_eq] at h
  exact h
theorem rc_who {m : MailD} (h : mailB m = true) : whoOk (m.fu, m.fd) = true ∧ (∀ p ∈ m.rc, whoOk p = true) ∧ 1 ≤ m.rc.length ∧ m.rc.length ≤ 4 ∧ bodyB m.body = true := by
  obtain ⟨h1, h2, h3, h4⟩ := mailB_parts h
  refine ⟨h1, fun p hp => ?_, ?_, h2, h4⟩
  · unfold whoOk; rw [h3 p hp, Bool.or_true]
  · unfold mailB toB at h
    simp only [Bool.and_eq_true, decide_eq_true_eq] at h
    exact h.2.1.1.1
/-- The lines ahead of a mail's body. -/
def headLines (m : MailD) : List (List UInt8) := markL fromT (m.fu, m.fd) :: m.rc.map (markL toT)
theorem headLines_flat (m : MailD) : headL m m.rc.length = (headLines m).flatMap fun l => l ++ [13, 10] := by
  unfold headL headLines
  rw [List.take_length, List.flatMap_cons, List.flatMap_map]
  rfl
theorem mailL_flat (m : MailD) : mailL m = ((headLines m).flatMap fun l => l ++ [13, 10]) ++ [13, 10] ++ dotsAll m.body := by
  unfold mailL
  rw [headLines_flat]
theorem headLines_ok {m : MailD} (h : mailB m = true) : ∀ l ∈ headLines m, l ≠ [] ∧ 13 ∉ l := by
  obtain ⟨h1, h2, _⟩ := rc_who h
  intro l hl
  unfold headLines at hl
  rw [List.mem_cons, List.mem_map] at hl
  rcases hl with rfl | ⟨p, hp, rfl⟩
  · exact ⟨by unfold markL fromT; simp, markL_no13 (by decide) h1⟩
  · exact ⟨by unfold markL toT; simp, markL_no13 (by decide) (h2 p hp)⟩
theorem linesB_flat : ∀ (ls : List (List UInt8)) (r : List UInt8), (∀ l ∈ ls, 13 ∉ l) → linesB (mk ((ls.flatMap fun l => l ++ [13, 10]) ++ r)) = ls.map mk ++ linesB (mk r)
  | [], r, _ => rfl
  | l :: ls, r, h => by
    rw [List.flatMap_cons, List.append_assoc, (linesB_cons (h l List.mem_cons_self)).1, linesB_flat ls r fun x hx => h x (List.mem_cons_of_mem _ hx)]
    rfl
theorem flat_length : ∀ (ls : List (List UInt8)), (ls.flatMap fun l => l ++ [13, 10]).length = takes (ls.map mk)
  | [] => rfl
  | l :: ls => by
    have ih := flat_length ls
    unfold takes at ih ⊢
    rw [List.flatMap_cons, List.length_append, ih]
    simp [mk_size]
theorem takes_app (a b : List ByteArray) : takes (a ++ b) = takes a + takes b := by simp [takes]

/-- WHAT THE MODEL READS of a text that is a mail's: that mail. -/
theorem read_written {m : MailD} {s : ByteArray} (h : writes m s = true) : headS (linesB s) = true ∧ parsed s = m ∧ dotGetR (bodyOf s) = (m.body, true) := by
  obtain ⟨hm, hs⟩ := writes_parts h
  obtain ⟨h1, h2, h3, h4, h5⟩ := rc_who hm
  have hok := headLines_ok hm
  have hS : s = mk (mailL m) := mk_eq hs.symm
  have hlb : ∀ y ∈ m.body, lineB y = true := by
    unfold bodyB at h5
    rw [Bool.and_eq_true, List.all_eq_true] at h5
    exact h5.1
  obtain ⟨d1, d2⟩ := lines_dots m.body hlb
  have hL : linesB s = (headLines m).map mk ++ mk [] :: linesB (mk (dotsAll m.body)) := by
    rw [hS, mailL_flat, List.append_assoc, linesB_flat _ _ fun l hl => (hok l hl).2]
    congr 1
    have := (linesB_cons (x := []) (r := dotsAll m.body) (by simp)).1
    simpa using this
  have hrc : (m.rc.map fun p => mk (markL toT p)).all toOk = true := by
    rw [List.all_eq_true]
    intro x hx
    obtain ⟨p, hp, rfl⟩ := List.mem_map.1 hx
    exact (to_line (h2 p hp)).1
  have hL2 : linesB s = mk (markL fromT (m.fu, m.fd)) :: ((m.rc.map fun p => mk (markL toT p)) ++ mk [] :: linesB (mk (dotsAll m.body))) := by
    rw [hL]; unfold headLines; simp
  have htw : ((linesB s).drop 1).takeWhile toOk = m.rc.map fun p => mk (markL toT p) := by
    rw [hL2, List.drop_one, List.tail_cons]
    exact takeWhile_app hrc toOk_empty
  have hN : tosN (linesB s) = m.rc.length := by unfold tosN; rw [htw, List.length_map]
  have hT : tosOf (linesB s) = m.rc := by
    unfold tosOf
    rw [htw, List.map_map]
    have : ∀ l : List TwoB, (∀ p ∈ l, whoOk p = true) → l.map (toP ∘ fun p => mk (markL toT p)) = l := by
      intro l
      induction l with
      | nil => intro _; rfl
      | cons a l ih =>
        intro hl
        rw [List.map_cons, ih fun p hp => hl p (List.mem_cons_of_mem _ hp)]
        exact congrArg (· :: l) (to_line (hl a List.mem_cons_self)).2
    exact this _ h2
  have hA : headAt (linesB s) = (headL m m.rc.length).length + 2 := by
    unfold headAt
    rw [hN, hL, List.take_append]
    have hl1 : ((headLines m).map mk).length = 1 + m.rc.length := by unfold headLines; simp; omega
    rw [List.take_of_length_le (by omega), hl1, show 2 + m.rc.length - (1 + m.rc.length) = 1 by omega, List.take_succ_cons, List.take_zero, takes_app, headLines_flat, flat_length]
    rfl
  have hB : bodyOf s = mk (dotsAll m.body) := by
    refine ba_extd ?_
    unfold bodyOf
    rw [Lib.extract_to_end, hA, ← hs]
    unfold mailL
    rw [List.drop_left' (by simp)]
    rfl
  have hD : dotGetR (bodyOf s) = (m.body, true) := by
    have ho : outsB (mk (dotsAll m.body)) = m.body := by
      unfold outsB
      rw [d1, List.dropLast_concat, List.map_map]
      have : ∀ l : List ByteArray, l.map (strip ∘ dotPre) = l := by
        intro l
        induction l with
        | nil => rfl
        | cons a l ih => rw [List.map_cons, ih]; exact congrArg (· :: l) (undot_pre a).2
      exact this _
    have hz : (mk (dotsAll m.body)).size ≤ 800 := by
      rw [mk_size]
      unfold dotsAll
      have hz : ∀ x ∈ m.body, x.size ≤ 40 := fun x hx => by
        have := hlb x hx
        unfold lineB at this
        rw [Bool.and_eq_true, decide_eq_true_eq] at this
        exact this.2
      have := dotsL_length hz
      unfold bodyB at h5
      rw [Bool.and_eq_true, decide_eq_true_eq] at h5
      have := h5.2
      simp only [List.length_append, List.length_cons, List.length_nil]
      omega
    unfold dotGetR
    rw [hB, ho, decide_eq_true hz, h5, mk_data]
    simp
  refine ⟨?_, ?_, hD⟩
  · unfold headS
    rw [show firstOk (linesB s) = true by rw [hL2]; exact (from_line h1).1, hN, decide_eq_true h3, Bool.true_and, Bool.true_and, decide_eq_true_eq, hL]
    rw [List.getElem?_append_right (by unfold headLines; simp; omega)]
    have : ((headLines m).map mk).length = 1 + m.rc.length := by unfold headLines; simp; omega
    rw [this, Nat.sub_self]; rfl
  · unfold parsed
    rw [hD, hT]
    have : firstP (linesB s) = (m.fu, m.fd) := by rw [hL2]; exact (from_line h1).2
    rw [this]
theorem mailGetR_no {s : ByteArray} (h : ∀ m, writes m s = true → 800 < s.size) : mailGetR s = (noMail, false) := by
  unfold mailGetR
  rw [if_neg]
  rw [Bool.and_eq_true, decide_eq_true_eq]
  rintro ⟨h1, h2⟩
  have := h _ h2
  omega
theorem mailGetR_yes {s : ByteArray} {m : MailD} (h : writes m s = true) (hs : s.size ≤ 800) : mailGetR s = (m, true) := by
  unfold mailGetR
  rw [(read_written h).2.1, h, decide_eq_true hs]; rfl

/-! ### the size of a mail that is written -/
theorem word_size {s : ByteArray} (h : wordB s = true) : s.size ≤ 8 := by
  unfold wordB at h
  rw [Bool.and_eq_true, decide_eq_true_eq] at h
  exact h.2.2
theorem pieces_small : ∀ (k : Nat) (s : ByteArray), (piecesB 46 k s).all wordB = true → s.size + 1 ≤ 9 * (piecesB 46 k s).length
  | 0, s, h => by
    unfold piecesB at h ⊢
    rw [Lib.splitB_zero] at h ⊢
    rw [List.all_cons, Bool.and_eq_true] at h
    have := word_size h.1
    simp; omega
  | k + 1, s, h => by
    unfold piecesB at h ⊢
    rcases Lib.indexB_cases s (sep1 46) with e | ⟨i, e, hi⟩
    · rw [Lib.splitB_miss _ _ _ _ e] at h ⊢
      rw [List.all_cons, Bool.and_eq_true] at h
      have := word_size h.1
      simp; omega
    · rw [Lib.splitB_hit _ _ _ _ _ e] at h ⊢
      rw [List.all_cons, Bool.and_eq_true] at h
      have h1 := word_size h.1
      have h2 := pieces_small k _ h.2
      unfold piecesB at h2
      rw [sep1_size] at *
      rw [ByteArray.size_extract] at h1 h2
      simp only [List.length_cons]
      omega
theorem dom_small {s : ByteArray} (h : domB s = true) : s.size ≤ 26 := by
  unfold domB at h
  rw [Bool.and_eq_true, decide_eq_true_eq] at h
  have := pieces_small 3 s h.1
  omega
theorem put_small {p : TwoB} (h : whoOk p = true) : (putB p.1 p.2).size ≤ 37 := by
  cases h1 : nullB p.1 p.2
  · have h2 : addrB p.1 p.2 = true := by unfold whoOk at h; rw [h1] at h; exact h
    rw [putB_addr h2, wire_size]
    unfold addrB at h2
    rw [Bool.and_eq_true] at h2
    have := word_size h2.1
    have := dom_small h2.2
    omega
  · rw [putB_null h1]; decide
theorem flatTo_small : ∀ {l : List TwoB}, (∀ p ∈ l, whoOk p = true) → (l.flatMap toL).length ≤ 42 * l.length
  | [], _ => by simp
  | p :: l, h => by
    have ih := flatTo_small (l := l) fun q hq => h q (List.mem_cons_of_mem _ hq)
    have hp := put_small (h p List.mem_cons_self)
    rw [Lib.size_eq] at hp
    have hz : (toL p).length = 5 + (putB p.1 p.2).data.toList.length := by
      unfold toL
      simp only [List.length_append, List.length_cons, List.length_nil]
      omega
    rw [List.flatMap_cons, List.length_append, List.length_cons, hz]
    omega
theorem body_small {xs : List ByteArray} (h : bodyB xs = true) : (dotsAll xs).length ≤ 519 := by
  unfold bodyB at h
  rw [Bool.and_eq_true, List.all_eq_true, decide_eq_true_eq] at h
  have hz : ∀ x ∈ xs, x.size ≤ 40 := fun x hx => by
    have := h.1 x hx
    unfold lineB at this
    rw [Bool.and_eq_true, decide_eq_true_eq] at this
    exact this.2
  have := dotsL_length hz
  unfold dotsAll
  simp only [List.length_append, List.length_cons, List.length_nil]
  have := h.2
  omega
theorem mailL_small {m : MailD} (h : mailB m = true) : (mailL m).length ≤ 760 := by
  obtain ⟨h1, h2, h3, h4, h5⟩ := rc_who h
  have a := flatTo_small h2
  have b := body_small h5
  have c : (putB m.fu m.fd).size ≤ 37 := put_small h1
  rw [Lib.size_eq] at c
  have hf : (fromL m.fu m.fd).length = 7 + (putB m.fu m.fd).data.toList.length := by
    unfold fromL
    simp only [List.length_append, List.length_cons, List.length_nil]
    omega
  unfold mailL headL
  rw [List.take_length]
  simp only [List.length_append, List.length_cons, List.length_nil, hf]
  omega
theorem writes_small {m : MailD} {s : ByteArray} (h : writes m s = true) : s.size ≤ 760 := by
  obtain ⟨hm, hs⟩ := writes_parts h
  rw [Lib.size_eq, ← hs]
  exact mailL_small hm
/-- What is read of how a mail is written is that mail. -/
theorem mailGet_put {m : MailD} (h : mailB m = true) : mailGetR (mailPutB m) = (m, true) ∧ (mailPutB m).size ≤ 760 := by
  have hw : writes m (mailPutB m) = true := by
    rw [mailPutB_yes h]
    unfold writes
    rw [h]; simp
  exact ⟨mailGetR_yes hw (by have := writes_small hw; omega), writes_small hw⟩
/-- What is read as a mail is written just so. -/
theorem mailGet_inv {s : ByteArray} {m : MailD} (h : mailGetR s = (m, true)) : mailB m = true ∧ mailPutB m = s := by
  unfold mailGetR at h
  split at h
  · rename_i hc
    rw [Bool.and_eq_true] at hc
    simp only [Prod.mk.injEq, and_true] at h
    rw [h] at hc
    obtain ⟨hm, hs⟩ := writes_parts hc.2
    refine ⟨hm, ?_⟩
    rw [mailPutB_yes hm]
    exact (mk_eq hs.symm).symm
  · simp at h
end Go.Proofs.YtcaknjdolfheaaaDoor
namespace Go.Proofs.YtcaknjdolfheaaaDoor
open Go

def crlf2 : ByteArray := { data := #[13, 10, 13, 10] }
def headI (ls : List ByteArray) : Bool := firstOk ls && (ls.drop 1).all toOk
/-- A head's lines. -/
def splitC (h : ByteArray) : List ByteArray := linesB h ++ [leftOf h]
def textI (s : ByteArray) (i : Nat) : ByteArray := s.extract (i + 4) s.size
def linesI (s : ByteArray) (i : Nat) : List ByteArray := splitC (s.extract 0 i)
def mailI (s : ByteArray) (i : Nat) : MailD := ⟨(firstP (linesI s i)).1, (firstP (linesI s i)).2, ((linesI s i).drop 1).map toP, (dotGetR (textI s i)).1⟩

theorem splitC_ne (h : ByteArray) : ∃ x xs, splitC h = x :: xs := by
  unfold splitC
  cases linesB h with
  | nil => exact ⟨_, [], rfl⟩
  | cons y ys => exact ⟨y, ys ++ [leftOf h], rfl⟩
theorem split_lines : ∀ (n : Nat) (s : ByteArray), s.size ≤ n → Lib.splitB crlf 0 (Lib.countB s crlf) s = splitC s
  | n, s, h => by
    rcases Lib.indexB_cases s crlf with e | ⟨i, e, hi⟩
    · rw [Lib.splitB_miss _ _ _ _ e]
      unfold splitC
      rw [(linesB_none e).1, (linesB_none e).2]; rfl
    · rw [crlf_size] at hi
      have hz : (s.extract (i + 2) s.size).size < s.size := by rw [ByteArray.size_extract]; omega
      rw [Lib.countB_hit _ _ _ (by rw [crlf_size]; omega) e, Nat.add_comm, Lib.splitB_hit _ _ _ _ _ e]
      rw [crlf_size]
      cases n with
      | zero => omega
      | succ n =>
        rw [split_lines n _ (by omega)]
        unfold splitC
        rw [(linesB_hit e hi).1, (linesB_hit e hi).2]
        rfl

def joinC : List (List UInt8) → List UInt8
  | [] => []
  | [l] => l
  | l :: l2 :: ls => l ++ [13, 10] ++ joinC (l2 :: ls)
theorem flat_join : ∀ {ls : List (List UInt8)}, ls ≠ [] → (ls.flatMap fun l => l ++ [13, 10]) = joinC ls ++ [13, 10]
  | [], h => absurd rfl h
  | [l], _ => by simp [joinC]
  | l :: l2 :: ls, _ => by
    rw [List.flatMap_cons, flat_join (ls := l2 :: ls) (by simp)]
    show _ = l ++ [13, 10] ++ joinC (l2 :: ls) ++ [13, 10]
    simp
theorem no_crlf {l : List UInt8} (h : 13 ∉ l) : Lib.indexB (mk l) crlf = -1 := by
  refine Lib.index_none ?_
  intro j _
  rw [← Bool.not_eq_true, occ_crlf]
  rintro ⟨h1, _⟩
  rw [mk_data] at h1
  exact h (List.mem_of_getElem? h1)
theorem split_join : ∀ {ls : List (List UInt8)}, ls ≠ [] → (∀ l ∈ ls, 13 ∉ l) → splitC (mk (joinC ls)) = ls.map mk
  | [], h, _ => absurd rfl h
  | [l], _, h => by
    have e := no_crlf (h l List.mem_cons_self)
    unfold splitC
    show linesB (mk l) ++ [leftOf (mk l)] = _
    rw [(linesB_none e).1, (linesB_none e).2]; rfl
  | l :: l2 :: ls, _, h => by
    have ih := split_join (ls := l2 :: ls) (by simp) fun x hx => h x (List.mem_cons_of_mem _ hx)
    unfold splitC at ih ⊢
    obtain ⟨e1, e2⟩ := linesB_cons (x := l) (r := joinC (l2 :: ls)) (h l List.mem_cons_self)
    show linesB (mk (l ++ [13, 10] ++ joinC (l2 :: ls))) ++ [leftOf (mk (l ++ [13, 10] ++ joinC (l2 :: ls)))] = _
    rw [e1, e2, List.cons_append, ih]; rfl

theorem index_skip : ∀ {l r t : List UInt8} {k : Nat}, 13 ∉ l → Lib.index r (13 :: t) = k → Lib.index (l ++ r) (13 :: t) = ((l.length + k : Nat) : Int)
  | [], r, t, k, _, h => by simpa using h
  | c :: l, r, t, k, hn, h => by
    rw [List.mem_cons] at hn
    have ih := index_skip (l := l) (fun e => hn (.inr e)) h
    have hc : (13 == c) = false := by rw [beq_eq_false_iff_ne]; exact fun e => hn (.inl e)
    rw [List.cons_append]
    unfold Lib.index
    rw [ih]
    have hp : (13 :: t).isPrefixOf (c :: (l ++ r)) = false := by
      show ((13 == c) && _) = false
      rw [hc]; rfl
    rw [hp]
    have : (((l.length + k : Nat) : Int) == -1) = false := by rw [beq_eq_false_iff_ne]; omega
    rw [this]
    simp only [Bool.false_eq_true, if_false, List.length_cons]
    omega
theorem index_step {c : UInt8} {l t : List UInt8} {k : Nat} (hp : t.isPrefixOf (c :: l) = false) (h : Lib.index l t = k) : Lib.index (c :: l) t = ((k + 1 : Nat) : Int) := by
  unfold Lib.index
  rw [hp, h]
  have : ((k : Int) == -1) = false := by rw [beq_eq_false_iff_ne]; omega
  rw [this]
  simp
theorem index_head : ∀ {ls : List (List UInt8)} {r : List UInt8}, ls ≠ [] → (∀ l ∈ ls, l ≠ [] ∧ 13 ∉ l) → Lib.index (joinC ls ++ ([13, 10, 13, 10] ++ r)) [13, 10, 13, 10] = ((joinC ls).length : Int)
  | [], _, h, _ => absurd rfl h
  | [l], r, _, h => by
    have h0 : Lib.index ([13, 10, 13, 10] ++ r) [13, 10, 13, 10] = ((0 : Nat) : Int) := by
      unfold Lib.index
      rw [List.cons_append]
      simp
    have := index_skip (l := l) (h l List.mem_cons_self).2 h0
    simpa [joinC] using this
  | l :: l2 :: ls, r, _, h => by
    have ih := index_head (ls := l2 :: ls) (r := r) (by simp) fun x hx => h x (List.mem_cons_of_mem _ hx)
    obtain ⟨hne, hn13⟩ := h l2 (by simp)
    obtain ⟨c, l2', rfl⟩ : ∃ c l2', l2 = c :: l2' := by
      cases l2 with
      | nil => exact absurd rfl hne
      | cons c t => exact ⟨c, t, rfl⟩
    have hc : c ≠ 13 := fun e => hn13 (by rw [e]; simp)
    obtain ⟨J, hJ⟩ : ∃ J, joinC ((c :: l2') :: ls) = c :: J := by
      cases ls with
      | nil => exact ⟨l2', rfl⟩
      | cons a t => exact ⟨l2' ++ [13, 10] ++ joinC (a :: t), rfl⟩
    have e : joinC (l :: (c :: l2') :: ls) ++ ([13, 10, 13, 10] ++ r) = l ++ (13 :: 10 :: (joinC ((c :: l2') :: ls) ++ ([13, 10, 13, 10] ++ r))) := by
      show l ++ [13, 10] ++ joinC ((c :: l2') :: ls) ++ _ = _
      simp
    rw [e]
    have h1 := index_step (c := 10) (t := [13, 10, 13, 10]) (by rfl) ih
    have h2 := index_step (c := 13) (t := [13, 10, 13, 10]) (by rw [hJ]; simp [List.isPrefixOf, Ne.symm hc]) h1
    have := index_skip (l := l) (h l List.mem_cons_self).2 h2
    rw [this]
    show _ = ((l ++ [13, 10] ++ joinC ((c :: l2') :: ls)).length : Int)
    simp only [List.length_append, List.length_cons, List.length_nil]
    omega

theorem dotGet_dots {xs : List ByteArray} (h : bodyB xs = true) : dotGetR (mk (dotsAll xs)) = (xs, true) := by
  have hlb : ∀ y ∈ xs, lineB y = true := by
    unfold bodyB at h
    rw [Bool.and_eq_true, List.all_eq_true] at h
    exact h.1
  obtain ⟨d1, d2⟩ := lines_dots xs hlb
  have ho : outsB (mk (dotsAll xs)) = xs := by
    unfold outsB
    rw [d1, List.dropLast_concat, List.map_map]
    have : ∀ l : List ByteArray, l.map (strip ∘ dotPre) = l := by
      intro l
      induction l with
      | nil => rfl
      | cons a l ih => rw [List.map_cons, ih]; exact congrArg (· :: l) (undot_pre a).2
    exact this _
  have hz : (mk (dotsAll xs)).size ≤ 800 := by
    have := body_small h
    rw [mk_size]; omega
  unfold dotGetR
  rw [ho, decide_eq_true hz, h, mk_data]
  simp

/-- A TEXT THAT IS A MAIL's, as the program cuts it. -/
theorem cut_written {m : MailD} {s : ByteArray} (h : writes m s = true) : ∃ i : Nat, Lib.indexB s crlf2 = i ∧ headI (linesI s i) = true ∧ dotGetR (textI s i) = (m.body, true) ∧ mailI s i = m := by
  obtain ⟨hm, hs⟩ := writes_parts h
  obtain ⟨h1, h2, h3, h4, h5⟩ := rc_who hm
  have hok := headLines_ok hm
  have hne : headLines m ≠ [] := by unfold headLines; simp
  have hdata : s.data.toList = joinC (headLines m) ++ ([13, 10, 13, 10] ++ dotsAll m.body) := by
    rw [← hs, mailL_flat, flat_join hne]; simp
  have hD : dotGetR (textI s (joinC (headLines m)).length) = (m.body, true) := by
    have e1 : textI s (joinC (headLines m)).length = mk (dotsAll m.body) := by
      refine ba_extd ?_
      unfold textI
      rw [Lib.extract_to_end, hdata, mk_data, ← List.append_assoc, List.drop_left' (by simp)]
    rw [e1]
    exact dotGet_dots h5
  have hL : linesI s (joinC (headLines m)).length = (headLines m).map mk := by
    have e1 : s.extract 0 (joinC (headLines m)).length = mk (joinC (headLines m)) := by
      refine ba_extd ?_
      rw [Lib.extract_from_zero, hdata, mk_data, List.take_left' rfl]
    unfold linesI
    rw [e1]
    exact split_join hne fun l hl => (hok l hl).2
  have hL2 : linesI s (joinC (headLines m)).length = mk (markL fromT (m.fu, m.fd)) :: m.rc.map fun p => mk (markL toT p) := by
    rw [hL]; unfold headLines; simp
  refine ⟨(joinC (headLines m)).length, ?_, ?_, hD, ?_⟩
  · show Lib.index s.data.toList [13, 10, 13, 10] = _
    rw [hdata]
    exact index_head hne hok
  · unfold headI
    rw [hL2, Bool.and_eq_true]
    refine ⟨(from_line h1).1, ?_⟩
    rw [List.drop_one, List.tail_cons, List.all_eq_true]
    intro x hx
    obtain ⟨p, hp, rfl⟩ := List.mem_map.1 hx
    exact (to_line (h2 p hp)).1
  · unfold mailI
    rw [hD, hL2, List.drop_one, List.tail_cons, List.map_map]
    have hf : firstP (mk (markL fromT (m.fu, m.fd)) :: m.rc.map fun p => mk (markL toT p)) = (m.fu, m.fd) := (from_line h1).2
    rw [hf]
    have : ∀ l : List TwoB, (∀ p ∈ l, whoOk p = true) → l.map (toP ∘ fun p => mk (markL toT p)) = l := by
      intro l
      induction l with
      | nil => intro _; rfl
      | cons a l ih =>
        intro hl
        rw [List.map_cons, ih fun p hp => hl p (List.mem_cons_of_mem _ hp)]
        exact congrArg (· :: l) (to_line (hl a List.mem_cons_self)).2
    rw [this _ h2]

theorem lines_data : ∀ {xs : List ByteArray}, (xs.all toOk) = true → (xs.flatMap fun x => x.data.toList ++ [13, 10]) = (xs.map toP).flatMap toL
  | [], _ => rfl
  | x :: xs, h => by
    rw [List.all_cons, Bool.and_eq_true] at h
    have hx := (marked_ok (t := toT) (x := x) h.1).1
    rw [List.flatMap_cons, List.map_cons, List.flatMap_cons, lines_data h.2, hx]
    rfl
/-- What the program reads is written just so. -/
theorem cut_writes {s : ByteArray} {i : Nat} (hi : Lib.indexB s crlf2 = i) (h1 : headI (linesI s i) = true) (h2 : (dotGetR (textI s i)).2 = true) (h3 : mailB (mailI s i) = true) : writes (mailI s i) s = true := by
  unfold writes
  rw [h3, Bool.true_and, beq_iff_eq]
  have hsp := Lib.index_spec s.data.toList [13, 10, 13, 10]
  have hi' : Lib.index s.data.toList [13, 10, 13, 10] = i := hi
  have hdata : s.data.toList = s.data.toList.take i ++ ([13, 10, 13, 10] ++ s.data.toList.drop (i + 4)) := by
    rcases hsp with ⟨e, _⟩ | ⟨j, e, hj, ho, _⟩
    · rw [hi'] at e; omega
    · obtain rfl : j = i := by omega
      unfold Lib.occAt at ho
      rw [List.isPrefixOf_iff_prefix] at ho
      obtain ⟨t, ht⟩ := ho
      have hd : s.data.toList.drop (j + 4) = t := by
        rw [← List.drop_drop, ← ht]; rfl
      rw [hd, ht, List.take_append_drop]
  have hhead : (s.extract 0 i).data.toList = s.data.toList.take i := Lib.extract_from_zero _ _
  have htext : (textI s i).data.toList = s.data.toList.drop (i + 4) := by unfold textI; rw [Lib.extract_to_end]
  obtain ⟨b, hb⟩ : ∃ b, dotGetR (textI s i) = (b, true) := ⟨(dotGetR (textI s i)).1, by rw [← h2]⟩
  have hbd : dotsAll b = (textI s i).data.toList := by
    unfold dotGetR at hb
    split at hb
    · rename_i hc
      simp only [Bool.and_eq_true, beq_iff_eq, Prod.mk.injEq, and_true] at hc hb
      rw [← hb]; exact hc.2
    · simp at hb
  have hjoin := lines_join (s.extract 0 i)
  have hflat : s.data.toList.take i ++ [13, 10] = (linesI s i).flatMap fun x => x.data.toList ++ [13, 10] := by
    unfold linesI splitC
    rw [List.flatMap_append, ← hhead, hjoin]
    simp
  obtain ⟨x, xs, hx⟩ := splitC_ne (s.extract 0 i)
  have hx' : linesI s i = x :: xs := hx
  unfold headI at h1
  rw [hx', Bool.and_eq_true, List.drop_one, List.tail_cons] at h1
  have hf := (marked_ok (t := fromT) (x := x) h1.1).1
  unfold mailL headL mailI
  rw [hb, hx', List.drop_one, List.tail_cons, List.take_length, hbd, htext]
  have e : fromL (firstP (x :: xs)).1 (firstP (x :: xs)).2 = x.data.toList ++ [13, 10] := by
    rw [hf]; rfl
  show fromL (firstP (x :: xs)).1 (firstP (x :: xs)).2 ++ (xs.map toP).flatMap toL ++ [13, 10] ++ s.data.toList.drop (i + 4) = s.data.toList
  rw [e, ← lines_data h1.2, ← List.flatMap_cons (f := fun x : ByteArray => x.data.toList ++ [13, 10]), ← hx', ← hflat]
  conv => rhs; rw [hdata]
  simp

def okI (s : ByteArray) (i : Nat) : Bool := headI (linesI s i) && ((dotGetR (textI s i)).2 && mailB (mailI s i))
theorem getI_none {s : ByteArray} (h : Lib.indexB s crlf2 = -1) : mailGetR s = (noMail, false) :=
  mailGetR_no fun m hw => by
    obtain ⟨i, hi, _⟩ := cut_written hw
    omega
theorem getI_no {s : ByteArray} {i : Nat} (hi : Lib.indexB s crlf2 = i) (h : okI s i = false) : mailGetR s = (noMail, false) :=
  mailGetR_no fun m hw => by
    obtain ⟨j, hj, h1, h2, h3⟩ := cut_written hw
    obtain rfl : j = i := by omega
    unfold okI at h
    rw [h1, h2, h3, (writes_parts hw).1] at h
    simp at h
theorem getI_yes {s : ByteArray} {i : Nat} (hi : Lib.indexB s crlf2 = i) (hs : s.size ≤ 800) (h : okI s i = true) : mailGetR s = (mailI s i, true) := by
  unfold okI at h
  rw [Bool.and_eq_true, Bool.and_eq_true] at h
  exact mailGetR_yes (cut_writes hi h.1 h.2.1 h.2.2) hs
end Go.Proofs.YtcaknjdolfheaaaDoor
namespace Go.Proofs.YtcaknjdolfheaaaDoor
open Go

def soFar (ls : List ByteArray) (k : Nat) : Bool := decide (k = 0) || (firstOk ls && ((ls.drop 1).take (k - 1)).all toOk)
def tosK (ls : List ByteArray) (k : Nat) : List TwoB := ((ls.drop 1).take (k - 1)).map toP
def whoK (ls : List ByteArray) (k : Nat) : TwoB := if k = 0 then ({ data := #[] }, { data := #[] }) else firstP ls
theorem first_at {ls : List ByteArray} {x : ByteArray} (hx : ls[0]? = some x) : firstOk ls = fromOk x ∧ firstP ls = fromP x := by
  cases ls with
  | nil => simp at hx
  | cons y ys => simp at hx; subst hx; exact ⟨rfl, rfl⟩
theorem drop_at {ls : List ByteArray} {k : Nat} {x : ByteArray} (hk : 1 ≤ k) (hx : ls[k]? = some x) : (ls.drop 1)[k - 1]? = some x := by
  rw [List.getElem?_drop, show 1 + (k - 1) = k by omega]; exact hx
theorem soFar_parts {ls : List ByteArray} {k : Nat} (hk : 1 ≤ k) (h : soFar ls k = true) : firstOk ls = true ∧ ((ls.drop 1).take (k - 1)).all toOk = true := by
  unfold soFar at h
  rw [decide_eq_false (by omega), Bool.false_or, Bool.and_eq_true] at h
  exact h
theorem soFar_one {ls : List ByteArray} {x : ByteArray} (hx : ls[0]? = some x) (h : fromOk x = true) : soFar ls 1 = true := by
  unfold soFar
  rw [(first_at hx).1, h]; simp
theorem soFar_succ {ls : List ByteArray} {k : Nat} {x : ByteArray} (hk : 1 ≤ k) (hx : ls[k]? = some x) (h : soFar ls k = true) (hc : toOk x = true) : soFar ls (k + 1) = true := by
  obtain ⟨h1, h2⟩ := soFar_parts hk h
  unfold soFar
  rw [h1, show k + 1 - 1 = (k - 1) + 1 by omega, list_all_succ (drop_at hk hx) h2 hc]; simp
theorem tosN_at {ls : List ByteArray} {k : Nat} {x : ByteArray} (hk : 1 ≤ k) (hx : ls[k]? = some x) (h : soFar ls k = true) (hc : toOk x = false) : (ls.drop 1).takeWhile toOk = (ls.drop 1).take (k - 1) ∧ tosN ls = k - 1 := by
  have hx' := drop_at hk hx
  obtain ⟨hl, _⟩ := List.getElem?_eq_some_iff.1 hx'
  have e : (ls.drop 1).takeWhile toOk = (ls.drop 1).take (k - 1) := by
    have hs : ls.drop 1 = (ls.drop 1).take (k - 1) ++ x :: (ls.drop 1).drop (k - 1 + 1) := by
      have h2 := List.take_append_drop (k - 1) (ls.drop 1)
      rw [List.drop_eq_getElem_cons hl, (List.getElem?_eq_some_iff.1 hx').2] at h2
      exact h2.symm
    conv => lhs; rw [hs]
    exact takeWhile_app (soFar_parts hk h).2 hc
  refine ⟨e, ?_⟩
  unfold tosN
  rw [e, List.length_take]
  omega
theorem head_end {ls : List ByteArray} {k : Nat} (hk : ls.length = k) (h : soFar ls k = true) : headS ls = false := by
  by_cases h0 : k = 0
  · have : ls = [] := List.eq_nil_of_length_eq_zero (by omega)
    rw [this]; rfl
  · obtain ⟨h1, h2⟩ := soFar_parts (by omega) h
    rw [List.take_of_length_le (by rw [List.length_drop]; omega)] at h2
    have e : tosN ls = k - 1 := by
      unfold tosN
      have : (ls.drop 1).takeWhile toOk = ls.drop 1 := by
        have : ∀ l : List ByteArray, l.all toOk = true → l.takeWhile toOk = l := by
          intro l
          induction l with
          | nil => intro _; rfl
          | cons a l ih =>
            intro hl
            rw [List.all_cons, Bool.and_eq_true] at hl
            rw [List.takeWhile_cons, hl.1]
            simp only [if_true]
            rw [ih hl.2]
        exact this _ h2
      rw [this, List.length_drop, hk]
    unfold headS
    rw [e, List.getElem?_eq_none (by omega)]
    simp
theorem head_first {ls : List ByteArray} {x : ByteArray} (hx : ls[0]? = some x) (h : fromOk x = false) : headS ls = false := by
  unfold headS
  rw [(first_at hx).1, h]; rfl
theorem head_bad {ls : List ByteArray} {k : Nat} {x : ByteArray} (hk : 1 ≤ k) (hx : ls[k]? = some x) (h : soFar ls k = true) (hc : toOk x = false) (hne : x ≠ mk [] ∨ k = 1) : headS ls = false := by
  obtain ⟨_, e⟩ := tosN_at hk hx h hc
  unfold headS
  rw [e, show 1 + (k - 1) = k by omega, hx]
  rcases hne with hne | rfl
  · rw [decide_eq_false (p := some x = some (mk [])) (fun e => hne (Option.some.inj e)), Bool.and_false, Bool.and_false]
  · simp
theorem head_good {ls : List ByteArray} {k : Nat} (hk : 2 ≤ k) (hx : ls[k]? = some (mk [])) (h : soFar ls k = true) : headS ls = true ∧ tosOf ls = tosK ls k ∧ headAt ls = takes (ls.take (k + 1)) := by
  obtain ⟨e1, e2⟩ := tosN_at (by omega) hx h toOk_empty
  refine ⟨?_, ?_, ?_⟩
  · unfold headS
    rw [(soFar_parts (by omega) h).1, e2, show 1 + (k - 1) = k by omega, hx]
    simp; omega
  · unfold tosOf tosK; rw [e1]
  · unfold headAt; rw [e2, show 2 + (k - 1) = k + 1 by omega]
theorem tosK_one (ls : List ByteArray) : tosK ls 1 = [] := by unfold tosK; simp
theorem tosK_zero (ls : List ByteArray) : tosK ls 0 = [] := by unfold tosK; simp
theorem tosK_succ {ls : List ByteArray} {k : Nat} {x : ByteArray} (hk : 1 ≤ k) (hx : ls[k]? = some x) : tosK ls (k + 1) = tosK ls k ++ [toP x] := by
  have hx' := drop_at hk hx
  obtain ⟨hl, e⟩ := List.getElem?_eq_some_iff.1 hx'
  unfold tosK
  rw [show k + 1 - 1 = (k - 1) + 1 by omega, List.take_succ_eq_append_getElem hl, List.map_append, e]; rfl
theorem tosK_le (ls : List ByteArray) (k : Nat) : (tosK ls k).length ≤ k := by
  unfold tosK
  rw [List.length_map, List.length_take]; omega
theorem takes_succ {ls : List ByteArray} {k : Nat} {x : ByteArray} (hx : ls[k]? = some x) : takes (ls.take (k + 1)) = takes (ls.take k) + (x.size + 2) := by
  obtain ⟨hk, e⟩ := List.getElem?_eq_some_iff.1 hx
  rw [List.take_succ_eq_append_getElem hk, takes_snoc, e]
theorem takes_take (ls : List ByteArray) (k : Nat) : takes (ls.take k) ≤ takes ls := by
  have := takes_app (ls.take k) (ls.drop k)
  rw [List.take_append_drop] at this
  omega
theorem noAddr_empty : (getR { data := #[] }).2.2 = false := by decide +kernel
theorem ext_empty {x : ByteArray} {n : Nat} (h : x.size ≤ n) : x.extract n x.size = { data := #[] } := by
  refine ba_extd ?_
  rw [Lib.extract_to_end, List.drop_of_length_le (by rw [← Lib.size_eq]; exact h)]
theorem piece_prefix (x : ByteArray) (n : Nat) (t : List UInt8) (ht : t.length = n) : ((x.extract 0 n).toList == t) = Lib.hasPrefix x.data.toList t := by
  unfold Lib.hasPrefix
  rw [Bool.eq_iff_iff, List.isPrefixOf_iff_prefix, List.prefix_iff_eq_take, beq_iff_eq, Lib.toList_data, Lib.extract_from_zero, ht]
  exact ⟨fun h => h.symm, fun h => h.symm⟩
theorem from_cases (x : ByteArray) : (5 < x.size ∧ ((x.extract 0 5).toList == [102, 114, 111, 109, 32]) = true ∧ markedR fromT x = getR (x.extract 5 x.size)) ∨ (5 < x.size ∧ ((x.extract 0 5).toList == [102, 114, 111, 109, 32]) = false ∧ fromOk x = false) ∨ (x.size ≤ 5 ∧ fromOk x = false) := by
  have e : ((x.extract 0 5).toList == [102, 114, 111, 109, 32]) = Lib.hasPrefix x.data.toList fromT := piece_prefix x 5 fromT rfl
  cases hp : Lib.hasPrefix x.data.toList fromT
  · have hf : fromOk x = false := by unfold fromOk markedR; rw [hp]; rfl
    by_cases h : 5 < x.size
    · exact .inr (.inl ⟨h, by rw [e, hp], hf⟩)
    · exact .inr (.inr ⟨by omega, hf⟩)
  · have hm : markedR fromT x = getR (x.extract 5 x.size) := by unfold markedR; rw [if_pos hp]; rfl
    by_cases h : 5 < x.size
    · exact .inl ⟨h, by rw [e, hp], hm⟩
    · refine .inr (.inr ⟨by omega, ?_⟩)
      unfold fromOk
      rw [hm, ext_empty (by omega)]
      exact noAddr_empty
theorem to_cases (x : ByteArray) : (3 < x.size ∧ ((x.extract 0 3).toList == [116, 111, 32]) = true ∧ markedR toT x = getR (x.extract 3 x.size)) ∨ (3 < x.size ∧ ((x.extract 0 3).toList == [116, 111, 32]) = false ∧ toOk x = false) ∨ (x.size ≤ 3 ∧ toOk x = false) := by
  have e : ((x.extract 0 3).toList == [116, 111, 32]) = Lib.hasPrefix x.data.toList toT := piece_prefix x 3 toT rfl
  cases hp : Lib.hasPrefix x.data.toList toT
  · have hf : toOk x = false := by unfold toOk markedR; rw [hp]; rfl
    by_cases h : 3 < x.size
    · exact .inr (.inl ⟨h, by rw [e, hp], hf⟩)
    · exact .inr (.inr ⟨by omega, hf⟩)
  · have hm : markedR toT x = getR (x.extract 3 x.size) := by unfold markedR; rw [if_pos hp]; rfl
    by_cases h : 3 < x.size
    · exact .inl ⟨h, by rw [e, hp], hm⟩
    · refine .inr (.inr ⟨by omega, ?_⟩)
      unfold toOk
      rw [hm, ext_empty (by omega)]
      exact noAddr_empty
end Go.Proofs.YtcaknjdolfheaaaDoor
namespace Go.Proofs.YtcaknjdolfheaaaDoor
open Go

def hopS : ByteArray := { data := #[72, 111, 112, 58, 32] }
def marked (s : ByteArray) : Bool := Lib.hasPrefix s.data.toList hopS.data.toList
def hopB (s : ByteArray) : Bool := marked s && domB (s.extract 5 s.size)
def hopsN (xs : List ByteArray) : Nat := (xs.takeWhile hopB).length

theorem domB_empty {s : ByteArray} (h : s.size = 0) : domB s = false := by
  have e : piecesB 46 3 s = [s] := by
    unfold piecesB
    exact Lib.splitB_miss _ _ _ _ (indexB_none fun j _ hj => by omega)
  unfold domB
  rw [e, List.all_cons, wordB_size (by omega)]
  rfl
theorem marked_take (s : ByteArray) : marked s = (s.data.toList.take 5 == [72, 111, 112, 58, 32]) := by
  unfold marked Lib.hasPrefix hopS
  rw [Bool.eq_iff_iff, List.isPrefixOf_iff_prefix, List.prefix_iff_eq_take, beq_iff_eq]
  exact ⟨fun h => h.symm, fun h => h.symm⟩
theorem marked_short {s : ByteArray} (h : s.size ≤ 5) : hopB s = false := by
  unfold hopB
  rw [domB_empty (by rw [ByteArray.size_extract]; omega), Bool.and_false]
theorem marked_piece (s : ByteArray) : ((s.extract 0 5).toList == [72, 111, 112, 58, 32]) = marked s := by
  rw [marked_take, Lib.toList_data, Lib.extract_from_zero]
theorem hopB_no {s : ByteArray} (h : marked s = false) : hopB s = false := by unfold hopB; rw [h, Bool.false_and]
theorem hopB_yes {s : ByteArray} (h : marked s = true) : hopB s = domB (s.extract 5 s.size) := by unfold hopB; rw [h, Bool.true_and]
theorem marked_rest {s : ByteArray} (h : marked s = true) : (⟨(Lib.trimPrefix s.data.toList hopS.data.toList).toArray⟩ : ByteArray) = s.extract 5 s.size := by
  unfold marked at h
  unfold Lib.trimPrefix
  rw [if_pos h]
  apply ByteArray.ext
  apply Array.ext'
  rw [Lib.extract_to_end]
  rfl
theorem hopsN_le (xs : List ByteArray) : hopsN xs ≤ xs.length := by
  unfold hopsN
  exact (List.takeWhile_sublist hopB).length_le
theorem hopsN_at : ∀ (xs : List ByteArray) (k : Nat), (xs.take k).all hopB = true → (k = xs.length ∨ ∃ x, xs[k]? = some x ∧ hopB x = false) → hopsN xs = k
  | [], k, _, h => by
    rcases h with rfl | ⟨x, hx, _⟩
    · rfl
    · simp at hx
  | y :: ys, 0, _, h => by
    rcases h with h | ⟨x, hx, hf⟩
    · simp at h
    · simp at hx
      subst hx
      unfold hopsN
      rw [List.takeWhile_cons, hf]
      rfl
  | y :: ys, k + 1, ha, h => by
    rw [List.take_succ_cons, List.all_cons, Bool.and_eq_true] at ha
    have := hopsN_at ys k ha.2 (by
      rcases h with h | ⟨x, hx, hf⟩
      · left; simpa using h
      · right; exact ⟨x, by simpa using hx, hf⟩)
    unfold hopsN at this ⊢
    rw [List.takeWhile_cons, ha.1]
    simpa using this
end Go.Proofs.YtcaknjdolfheaaaDoor
namespace Go.Proofs.YtcaknjdolfheaaaDoor
open Go

structure ConfD where
  name : ByteArray
  own : List ByteArray
  ways : List (ByteArray × ByteArray)
def wayOkB (p : ByteArray × ByteArray) : Bool := domB p.1 && domB p.2
def confB (c : ConfD) : Bool := domB c.name && (c.own.all domB && decide (c.own.length ≤ 3)) && (c.ways.all wayOkB && decide (c.ways.length ≤ 4))
theorem confB_own {c : ConfD} {k : Nat} {x : ByteArray} (hx : c.own[k]? = some x) (h : domB x = false) : confB c = false := by
  unfold confB; rw [list_all_miss hx h]; simp
theorem confB_ways {c : ConfD} {k : Nat} {p : ByteArray × ByteArray} (hx : c.ways[k]? = some p) (h : wayOkB p = false) : confB c = false := by
  unfold confB; rw [list_all_miss hx h]; simp
theorem confB_end {c : ConfD} (h1 : c.own.all domB = true) (h2 : c.ways.all wayOkB = true) : confB c = (domB c.name && (decide (c.own.length ≤ 3) && decide (c.ways.length ≤ 4))) := by
  unfold confB; rw [h1, h2]; simp [Bool.and_assoc]
theorem confB_true {c : ConfD} (h : confB c = true) : domB c.name = true ∧ (∀ x ∈ c.own, domB x = true) ∧ c.own.length ≤ 3 ∧ (∀ p ∈ c.ways, domB p.1 = true ∧ domB p.2 = true) ∧ c.ways.length ≤ 4 := by
  unfold confB at h
  simp only [Bool.and_eq_true, decide_eq_true_eq, List.all_eq_true] at h
  refine ⟨h.1.1, h.1.2.1, h.1.2.2, fun p hp => ?_, h.2.2⟩
  have := h.2.1 p hp
  unfold wayOkB at this
  rwa [Bool.and_eq_true] at this

/-- The best way so far, by the longest end. -/
def betterB (dom : ByteArray) (b p : ByteArray × ByteArray) : ByteArray × ByteArray := if endB dom p.1 && decide (b.1.size < p.1.size) then p else b
def bestB (dom : ByteArray) (ps : List (ByteArray × ByteArray)) : ByteArray × ByteArray := ps.foldl (betterB dom) (ByteArray.empty, ByteArray.empty)
theorem bestB_snoc {dom : ByteArray} {ps : List (ByteArray × ByteArray)} {k : Nat} {p : ByteArray × ByteArray} (hp : ps[k]? = some p) : bestB dom (ps.take (k + 1)) = betterB dom (bestB dom (ps.take k)) p := by
  obtain ⟨hk, e⟩ := List.getElem?_eq_some_iff.1 hp
  unfold bestB
  rw [List.take_succ_eq_append_getElem hk, List.foldl_append, e]; rfl
theorem betterB_yes {dom : ByteArray} {b p : ByteArray × ByteArray} (h1 : endB dom p.1 = true) (h2 : b.1.size < p.1.size) : betterB dom b p = p := by
  unfold betterB; rw [h1, decide_eq_true h2]; rfl
theorem betterB_no {dom : ByteArray} {b p : ByteArray × ByteArray} (h : endB dom p.1 = false ∨ p.1.size ≤ b.1.size) : betterB dom b p = b := by
  unfold betterB
  rcases h with h | h
  · rw [h]; rfl
  · rw [decide_eq_false (by omega), Bool.and_false]; rfl
/-- A domain is one of a list. -/
def hasB (xs : List ByteArray) (x : ByteArray) : Bool := xs.any fun y => y.toList == x.toList
theorem hasB_hit {xs : List ByteArray} {x y : ByteArray} {k : Nat} (hy : xs[k]? = some y) (h : y.toList = x.toList) : hasB xs x = true := by
  unfold hasB
  rw [List.any_eq_true]
  exact ⟨y, List.mem_of_getElem? hy, by rw [h]; simp⟩
theorem hasB_end {xs : List ByteArray} {x : ByteArray} {k : Nat} (hk : xs.length ≤ k) (h : (xs.take k).any (fun y => y.toList == x.toList) = false) : hasB xs x = false := by
  rwa [List.take_of_length_le hk] at h
theorem any_take_succ {α : Type} {p : α → Bool} {l : List α} {k : Nat} {x : α} (hx : l[k]? = some x) (h : (l.take k).any p = false) (hc : p x = false) : (l.take (k + 1)).any p = false := by
  obtain ⟨hk, e⟩ := List.getElem?_eq_some_iff.1 hx
  rw [List.take_succ_eq_append_getElem hk, List.any_append, h, e]
  simp [hc]
def wayB (c : ConfD) (dom : ByteArray) : ByteArray := if confB c && domB dom && !hasB c.own dom then (bestB dom c.ways).2 else ByteArray.empty
def takesB (c : ConfD) (u d : ByteArray) : Bool := confB c && addrB u d && (hasB c.own d || !(bestB d c.ways).2.toList.isEmpty)
def helloB (c : ConfD) : ByteArray := if confB c then { data := #[50, 50, 48, 32] } ++ c.name else { data := #[] }
end Go.Proofs.YtcaknjdolfheaaaDoor
namespace Go.Proofs.YtcaknjdolfheaaaDoor
open Go

def idS : ByteArray := { data := #[73, 100, 58, 32] }
def idP (s : ByteArray) : Bool := Lib.hasPrefix s.data.toList idS.data.toList
def knownB (s : ByteArray) : Bool := decide (4 < s.size) && idP s
def idAt (xs : List ByteArray) : Int := match xs.findIdx? knownB with | some k => k | none => -1
def markR (xs : List ByteArray) : ByteArray := (xs.find? knownB).getD { data := #[] }
def markOfB (xs : List ByteArray) : ByteArray := if bodyB xs then markR xs else { data := #[] }
/-- No line of these is one by which a mail is known. -/
def noId (xs : List ByteArray) : Bool := xs.all fun x => !knownB x

theorem idP_take (s : ByteArray) : idP s = (s.data.toList.take 4 == [73, 100, 58, 32]) := by
  unfold idP Lib.hasPrefix idS
  rw [Bool.eq_iff_iff, List.isPrefixOf_iff_prefix, List.prefix_iff_eq_take, beq_iff_eq]
  exact ⟨fun h => h.symm, fun h => h.symm⟩
theorem idP_piece (s : ByteArray) : ((s.extract 0 4).toList == [73, 100, 58, 32]) = idP s := by
  rw [idP_take, Lib.toList_data, Lib.extract_from_zero]
theorem known_short {s : ByteArray} (h : s.size ≤ 4) : knownB s = false := by unfold knownB; rw [decide_eq_false (by omega), Bool.false_and]
theorem known_long {s : ByteArray} (h : 4 < s.size) : knownB s = idP s := by unfold knownB; rw [decide_eq_true h, Bool.true_and]
theorem known_size {s : ByteArray} (h : knownB s = true) : 4 < s.size := by
  unfold knownB at h
  rw [Bool.and_eq_true, decide_eq_true_eq] at h
  exact h.1

theorem noId_find : ∀ {xs : List ByteArray}, noId xs = true → xs.find? knownB = none
  | [], _ => rfl
  | x :: xs, h => by
    unfold noId at h
    rw [List.all_cons, Bool.and_eq_true, Bool.not_eq_true'] at h
    rw [List.find?_cons, h.1]
    exact noId_find (xs := xs) (by unfold noId; exact h.2)
theorem noId_append {xs ys : List ByteArray} (h : noId xs = true) : (xs ++ ys).find? knownB = ys.find? knownB := by
  rw [List.find?_append, noId_find h]; rfl
theorem markR_none {xs : List ByteArray} {k : Nat} (hk : xs.length ≤ k) (h : noId (xs.take k) = true) : markR xs = { data := #[] } := by
  rw [List.take_of_length_le hk] at h
  unfold markR
  rw [noId_find h]; rfl
theorem split_at {α : Type} {xs : List α} {k : Nat} {x : α} (hx : xs[k]? = some x) : xs = xs.take k ++ x :: xs.drop (k + 1) := by
  obtain ⟨hk, e⟩ := List.getElem?_eq_some_iff.1 hx
  have h2 := List.take_append_drop k xs
  rw [List.drop_eq_getElem_cons hk, e] at h2
  exact h2.symm
theorem markR_at {xs : List ByteArray} {k : Nat} {x : ByteArray} (hx : xs[k]? = some x) (h : noId (xs.take k) = true) (hc : knownB x = true) : markR xs = x := by
  unfold markR
  rw [split_at hx, noId_append h, List.find?_cons, hc]; rfl
theorem noId_succ {xs : List ByteArray} {k : Nat} {x : ByteArray} (hx : xs[k]? = some x) (h : noId (xs.take k) = true) (hc : knownB x = false) : noId (xs.take (k + 1)) = true := by
  unfold noId at h ⊢
  exact list_all_succ hx h (by rw [hc]; rfl)

theorem findIdx?_none_of {xs : List ByteArray} (h : noId xs = true) : xs.findIdx? knownB = none := by
  rw [List.findIdx?_eq_none_iff]
  intro x hx
  unfold noId at h
  have := List.all_eq_true.1 h x hx
  simpa using this
theorem idAt_none {xs : List ByteArray} {k : Nat} (hk : xs.length ≤ k) (h : noId (xs.take k) = true) : idAt xs = -1 := by
  rw [List.take_of_length_le hk] at h
  unfold idAt
  rw [findIdx?_none_of h]
theorem idAt_at {xs : List ByteArray} {k : Nat} {x : ByteArray} (hx : xs[k]? = some x) (h : noId (xs.take k) = true) (hc : knownB x = true) : idAt xs = k := by
  obtain ⟨hk, e⟩ := List.getElem?_eq_some_iff.1 hx
  unfold idAt
  have : xs.findIdx? knownB = some k := by
    rw [List.findIdx?_eq_some_iff_getElem]
    refine ⟨hk, by rw [e]; exact hc, fun j hj => ?_⟩
    unfold noId at h
    have := List.all_eq_true.1 h xs[j] (by rw [List.mem_take_iff_getElem]; exact ⟨j, by omega, rfl⟩)
    simpa using this
  rw [this]
/-- Where the first such line stands, or that there is none. -/
theorem id_cases (xs : List ByteArray) : (idAt xs = -1 ∧ markR xs = { data := #[] }) ∨ ∃ k x, k < xs.length ∧ xs[k]? = some x ∧ idAt xs = (k : Int) ∧ markR xs = x ∧ knownB x = true := by
  by_cases h : noId xs = true
  · left
    exact ⟨idAt_none (k := xs.length) (Nat.le_refl _) (by rwa [List.take_length]), markR_none (k := xs.length) (Nat.le_refl _) (by rwa [List.take_length])⟩
  · right
    obtain ⟨x, hx⟩ : ∃ x, xs.find? knownB = some x := by
      cases e : xs.find? knownB with
      | some x => exact ⟨x, rfl⟩
      | none =>
        exfalso
        apply h
        unfold noId
        rw [List.all_eq_true]
        intro x hx
        have := List.find?_eq_none.1 e x hx
        simpa using this
    obtain ⟨hc, as, bs, e, hn⟩ := List.find?_eq_some_iff_append.1 hx
    have hk : xs[as.length]? = some x := by rw [e]; simp
    have hno : noId (xs.take as.length) = true := by
      rw [e]
      unfold noId
      rw [List.take_left', List.all_eq_true]
      · intro y hy; exact hn y hy
      · rfl
    exact ⟨as.length, x, (List.getElem?_eq_some_iff.1 hk).1, hk, idAt_at hk hno hc, markR_at hk hno hc, hc⟩
theorem markOf_no {xs : List ByteArray} (h : bodyB xs = false) : markOfB xs = { data := #[] } := by unfold markOfB; rw [h]; rfl
theorem markOf_yes {xs : List ByteArray} (h : bodyB xs = true) : markOfB xs = markR xs := by unfold markOfB; rw [h]; rfl
theorem markOf_size {xs : List ByteArray} (h : bodyB xs = true) : (markOfB xs).size ≤ 40 := by
  rw [markOf_yes h]
  rcases id_cases xs with ⟨_, e⟩ | ⟨k, x, _, hx, _, e, _⟩
  · rw [e]; simp [ByteArray.size]
  · rw [e]
    unfold bodyB at h
    rw [Bool.and_eq_true] at h
    have := List.all_eq_true.1 h.1 x (List.mem_of_getElem? hx)
    unfold lineB at this
    rw [Bool.and_eq_true, decide_eq_true_eq] at this
    exact this.2
end Go.Proofs.YtcaknjdolfheaaaDoor
