/- Plain facts: what is read as lines that are sent. No program in this text. -/
import Derived.Test.YtaobhhjdkdoceaaPlainLines
import Derived.Test.YtaobhhjdkdoceaaPlainDots
namespace Go.Proofs.Ytaobhhjdkdoceaa
open Go

def mk (l : List UInt8) : ByteArray := ⟨l.toArray⟩
theorem mk_data (l : List UInt8) : (mk l).data.toList = l := rfl
theorem mk_of (s : ByteArray) : mk s.data.toList = s := by cases s; rfl
theorem mk_size (l : List UInt8) : (mk l).size = l.length := by rw [Lib.size_eq, mk_data]
theorem mk_eq {s : ByteArray} {l : List UInt8} (h : s.data.toList = l) : s = mk l := by rw [← h, mk_of]

theorem linesB_cons {x r : List UInt8} (h : 13 ∉ x) : linesB (mk (x ++ [13, 10] ++ r)) = mk x :: linesB (mk r) ∧ leftOf (mk (x ++ [13, 10] ++ r)) = leftOf (mk r) := by
  have hz : (mk (x ++ [13, 10] ++ r)).size = x.length + 2 + r.length := by rw [mk_size]; simp; omega
  have hi : Lib.indexB (mk (x ++ [13, 10] ++ r)) crlf = (x.length : Nat) := by
    refine Lib.index_first (by rw [mk_data]; simp) ?_ ?_
    · rw [occ_crlf, mk_data]
      refine ⟨?_, ?_⟩
      · rw [List.append_assoc, List.getElem?_append_right (Nat.le_refl _), Nat.sub_self]; rfl
      · rw [List.append_assoc, List.getElem?_append_right (by omega), show x.length + 1 - x.length = 1 by omega]; rfl
    · intro j hj
      rw [← Bool.not_eq_true, occ_crlf, mk_data]
      rintro ⟨e, _⟩
      rw [List.append_assoc, List.getElem?_append_left hj] at e
      exact h (List.mem_of_getElem? e)
  obtain ⟨h1, h2⟩ := linesB_hit hi (by omega)
  have e1 : (mk (x ++ [13, 10] ++ r)).extract 0 x.length = mk x := mk_eq (by rw [Lib.extract_from_zero, mk_data]; simp)
  have e2 : (mk (x ++ [13, 10] ++ r)).extract (x.length + 2) (mk (x ++ [13, 10] ++ r)).size = mk r := mk_eq (by
    rw [Lib.extract_to_end, mk_data, List.drop_append, List.length_append]
    simp)
  rw [e1, e2] at h1
  rw [e2] at h2
  exact ⟨h1, h2⟩

theorem lines_join (s : ByteArray) : s.data.toList = (linesB s).flatMap (fun x => x.data.toList ++ [13, 10]) ++ (leftOf s).data.toList := by
  have key : ∀ (n : Nat) (s : ByteArray), s.size ≤ n → s.data.toList = (linesB s).flatMap (fun x => x.data.toList ++ [13, 10]) ++ (leftOf s).data.toList := by
    intro n
    induction n with
    | zero =>
      intro s hs
      have hx : Lib.indexB s crlf = -1 := by
        rcases Lib.indexB_cases s crlf with e | ⟨i, _, hi⟩
        · exact e
        · rw [crlf_size] at hi; omega
      obtain ⟨e1, e2⟩ := linesB_none hx
      rw [e1, e2]; rfl
    | succ n ih =>
      intro s hs
      rcases Lib.indexB_cases s crlf with hx | ⟨i, hx, hi⟩
      · obtain ⟨e1, e2⟩ := linesB_none hx
        rw [e1, e2]; rfl
      · rw [crlf_size] at hi
        obtain ⟨e1, e2⟩ := linesB_hit hx hi
        have hr := ih (s.extract (i + 2) s.size) (by rw [ByteArray.size_extract]; omega)
        rw [e1, e2, List.flatMap_cons, List.append_assoc, ← hr, Lib.extract_from_zero, Lib.extract_to_end]
        have hat : s.data.toList[i]? = some 13 ∧ s.data.toList[i + 1]? = some 10 := by
          rw [← occ_crlf]
          rcases Lib.index_spec s.data.toList crlf.data.toList with ⟨e, _⟩ | ⟨j, e, _, ho, _⟩
          · have : Lib.index s.data.toList crlf.data.toList = i := hx
            omega
          · have : Lib.index s.data.toList crlf.data.toList = i := hx
            obtain rfl : j = i := by omega
            exact ho
        obtain ⟨l0, g0⟩ := List.getElem?_eq_some_iff.1 hat.1
        obtain ⟨l1, g1⟩ := List.getElem?_eq_some_iff.1 hat.2
        have : s.data.toList.drop i = 13 :: 10 :: s.data.toList.drop (i + 2) := by
          rw [List.drop_eq_getElem_cons l0, List.drop_eq_getElem_cons l1, g0, g1]
        rw [List.append_assoc, show ([13, 10] : List UInt8) ++ s.data.toList.drop (i + 2) = s.data.toList.drop i from this.symm, List.take_append_drop]
  exact key s.size s (Nat.le_refl _)

def strip (x : ByteArray) : ByteArray := if dotted x then x.extract 1 x.size else x
def undotOk (x : ByteArray) : Bool := !dotted x || Lib.hasPrefix x.data.toList [46, 46]
def outsB (s : ByteArray) : List ByteArray := (linesB s).dropLast.map strip
def dotGetR (s : ByteArray) : List ByteArray × Bool := if decide (s.size ≤ 800) && bodyB (outsB s) && (dotsAll (outsB s) == s.data.toList) then (outsB s, true) else ([], false)
def dotPre (y : ByteArray) : ByteArray := if dotted y then mk (46 :: y.data.toList) else y

theorem lineB_no13 {y : ByteArray} (h : lineB y = true) : 13 ∉ y.data.toList := by
  intro hm
  unfold lineB at h
  rw [Bool.and_eq_true, List.all_eq_true] at h
  exact absurd (h.1 13 hm) (by decide)
theorem dotLine_pre (y : ByteArray) : dotLine y = (dotPre y).data.toList ++ [13, 10] := by
  unfold dotLine dotPre
  split <;> simp [mk_data]
theorem lines_dots : ∀ (outs : List ByteArray), (∀ y ∈ outs, lineB y = true) → linesB (mk (dotsAll outs)) = outs.map dotPre ++ [mk [46]] ∧ leftOf (mk (dotsAll outs)) = mk []
  | [], _ => by
    have e : dotsAll [] = [46] ++ [13, 10] ++ [] := rfl
    obtain ⟨h1, h2⟩ := linesB_cons (x := [46]) (r := []) (by decide)
    have h0 : Lib.indexB (mk []) crlf = -1 := rfl
    obtain ⟨g1, g2⟩ := linesB_none h0
    rw [e, h1, h2, g1, g2]
    exact ⟨rfl, rfl⟩
  | y :: ys, h => by
    have e : dotsAll (y :: ys) = (dotPre y).data.toList ++ [13, 10] ++ dotsAll ys := by
      unfold dotsAll dotsL
      rw [List.flatMap_cons, dotLine_pre]
      simp
    have hy : 13 ∉ (dotPre y).data.toList := by
      have := lineB_no13 (h y List.mem_cons_self)
      unfold dotPre
      split
      · rw [mk_data, List.mem_cons]; rintro (e | e)
        · exact absurd e (by decide)
        · exact this e
      · exact this
    obtain ⟨h1, h2⟩ := linesB_cons (r := dotsAll ys) hy
    obtain ⟨g1, g2⟩ := lines_dots ys fun z hz => h z (List.mem_cons_of_mem _ hz)
    rw [e, h1, h2, g1, g2, mk_of]
    exact ⟨rfl, rfl⟩
theorem dotted_pre {y : ByteArray} (h : dotted y = true) : dotted (dotPre y) = true ∧ undotOk (dotPre y) = true ∧ strip (dotPre y) = y := by
  have hd : dotted (dotPre y) = true := by unfold dotPre; rw [if_pos h]; unfold dotted Lib.hasPrefix; rw [mk_data]; rfl
  refine ⟨hd, ?_, ?_⟩
  · unfold undotOk
    rw [hd]
    unfold dotPre
    rw [if_pos h, mk_data]
    unfold dotted Lib.hasPrefix at h
    unfold Lib.hasPrefix
    rw [List.isPrefixOf_cons_cons, h]; rfl
  · unfold strip
    rw [if_pos hd]
    unfold dotPre
    rw [if_pos h]
    apply ByteArray.ext
    apply Array.ext'
    rw [Lib.extract_to_end, mk_data]; rfl
theorem undot_pre (y : ByteArray) : undotOk (dotPre y) = true ∧ strip (dotPre y) = y := by
  cases h : dotted y
  · have e : dotPre y = y := by unfold dotPre; rw [h]; rfl
    rw [e]
    unfold undotOk strip
    rw [h]
    exact ⟨rfl, rfl⟩
  · exact ⟨(dotted_pre h).2.1, (dotted_pre h).2.2⟩
theorem pre_strip {x : ByteArray} (h : undotOk x = true) : dotPre (strip x) = x := by
  cases hd : dotted x
  · unfold strip dotPre
    rw [hd]; simp [hd]
  · unfold undotOk at h
    rw [hd] at h
    obtain ⟨h0, e0⟩ := dotted_true hd
    have hp : Lib.hasPrefix x.data.toList [46, 46] = true := by simpa using h
    cases e : x.data.toList with
    | nil => rw [e] at hp; cases hp
    | cons a l =>
      rw [e] at hp
      unfold Lib.hasPrefix at hp
      rw [List.isPrefixOf_cons_cons, Bool.and_eq_true] at hp
      have ha : a = 46 := ((by simpa using hp.1) : (46 : UInt8) = a).symm
      have hs : (strip x).data.toList = l := by
        unfold strip; rw [if_pos hd, Lib.extract_to_end, e]; rfl
      have hd2 : dotted (strip x) = true := by unfold dotted Lib.hasPrefix; rw [hs]; exact hp.2
      unfold dotPre
      rw [if_pos hd2, hs]
      exact (mk_eq (by rw [e, ha])).symm

/-- What the program asks: a last line of a dot alone, nothing left, each line as one that is sent. -/
def stepsOk (s : ByteArray) : Bool := decide ((linesB s).getLast? = some (mk [46])) && decide (leftOf s = mk []) && (linesB s).dropLast.all undotOk && bodyB (outsB s)

theorem dotGet_iff (s : ByteArray) : (bodyB (outsB s) && (dotsAll (outsB s) == s.data.toList)) = stepsOk s := by
  rw [Bool.eq_iff_iff]
  unfold stepsOk
  rw [Bool.and_eq_true, Bool.and_eq_true, Bool.and_eq_true, Bool.and_eq_true]
  constructor
  · rintro ⟨hb, hd⟩
    have hd' : dotsAll (outsB s) = s.data.toList := by simpa using hd
    have hl : ∀ y ∈ outsB s, lineB y = true := by
      unfold bodyB at hb
      rw [Bool.and_eq_true, List.all_eq_true] at hb
      exact hb.1
    obtain ⟨h1, h2⟩ := lines_dots (outsB s) hl
    rw [hd', mk_of] at h1 h2
    refine ⟨⟨⟨?_, ?_⟩, ?_⟩, hb⟩
    · rw [h1]; simp
    · rw [h2]; simp
    · rw [h1, List.dropLast_concat, List.all_eq_true]
      intro z hz
      obtain ⟨y, _, rfl⟩ := List.mem_map.1 hz
      exact (undot_pre y).1
  · rintro ⟨⟨⟨h1, h2⟩, h3⟩, hb⟩
    refine ⟨hb, ?_⟩
    have h1' : (linesB s).getLast? = some (mk [46]) := by simpa using h1
    have h2' : leftOf s = mk [] := by simpa using h2
    rw [List.all_eq_true] at h3
    have hL : linesB s = (linesB s).dropLast ++ [mk [46]] := by
      obtain ⟨ys, e⟩ := List.getLast?_eq_some_iff.1 h1'
      rw [e, List.dropLast_concat]
    have hj := lines_join s
    rw [hL, h2', List.flatMap_append, mk_data, List.append_nil] at hj
    rw [beq_iff_eq, hj]
    unfold dotsAll dotsL outsB
    rw [List.append_assoc]
    congr 1
    rw [List.flatMap_map]
    have : ∀ (l : List ByteArray), (∀ x ∈ l, undotOk x = true) → l.flatMap (fun x => dotLine (strip x)) = l.flatMap (fun x => x.data.toList ++ [13, 10]) := by
      intro l
      induction l with
      | nil => intro _; rfl
      | cons a l ih =>
        intro h
        rw [List.flatMap_cons, List.flatMap_cons, ih fun x hx => h x (List.mem_cons_of_mem _ hx), dotLine_pre, pre_strip (h a List.mem_cons_self)]
    exact this _ h3
theorem dotGetR_big {s : ByteArray} (h : 800 < s.size) : dotGetR s = ([], false) := by
  unfold dotGetR; rw [decide_eq_false (by omega), Bool.false_and]; rfl
theorem dotGetR_steps {s : ByteArray} (h : ¬ 800 < s.size) : dotGetR s = if stepsOk s then (outsB s, true) else ([], false) := by
  unfold dotGetR; rw [decide_eq_true (by omega), Bool.true_and, dotGet_iff]
end Go.Proofs.Ytaobhhjdkdoceaa
