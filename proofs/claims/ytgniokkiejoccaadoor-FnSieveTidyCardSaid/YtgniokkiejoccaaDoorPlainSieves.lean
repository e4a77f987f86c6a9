/- PlainSieve, PlainSieveFn. -/
import Derived.Test.YtgniokkiejoccaaDoorPlainRule
import Derived.Lib.IndexMore
import Derived.Lib.IndexLaws
namespace Go.Proofs.YtgniokkiejoccaaDoor
open Go

/-- A text is somewhere in another one. -/
def hasPart (s p : ByteArray) : Bool := Lib.contains s.data.toList p.data.toList
theorem occ_extract (s p : ByteArray) (k : Nat) (h : k + p.size ≤ s.size) : Lib.occAt s.data.toList p.data.toList k = ((s.extract k (k + p.size)).toList == p.toList) := by
  have h1 : s.data.toList.length = s.size := by simp
  have h2 : p.data.toList.length = p.size := by simp
  rw [Lib.occAt_iff_take _ _ _ (by omega), Lib.toList_data, Lib.toList_data, ByteArray.data_extract, Array.toList_extract, h2]
  simp [List.extract_eq_take_drop]
theorem hasPart_yes {s p : ByteArray} {k : Nat} (hk : k ≤ s.size) (h : Lib.occAt s.data.toList p.data.toList k = true) : hasPart s p = true := by
  unfold hasPart Lib.contains
  rw [decide_eq_true_eq]
  rcases Lib.index_spec s.data.toList p.data.toList with ⟨_, h2⟩ | ⟨i, h1, _⟩
  · rw [h2 k (by simpa using hk)] at h; cases h
  · rw [h1]; omega
theorem hasPart_no {s p : ByteArray} {k : Nat} (hk : s.size < k + p.size) (hn : Lib.NoOcc s.data.toList p.data.toList k) : hasPart s p = false := by
  have h1 : s.data.toList.length = s.size := by simp
  have h2 : p.data.toList.length = p.size := by simp
  unfold hasPart Lib.contains
  rw [decide_eq_false_iff_not]
  rcases Lib.index_spec s.data.toList p.data.toList with ⟨h3, _⟩ | ⟨i, h3, h4, h5, _⟩
  · rw [h3]; omega
  · exfalso
    by_cases hi : i < k
    · rw [hn i hi] at h5; cases h5
    · rcases Lib.occAt_room h5 with h6 | h6
      · omega
      · rw [h6] at h2
        have : p.size = 0 := by rw [← h2]; rfl
        omega
/-- What a rule asks for is so of a mail. -/
def asksB (u d : ByteArray) (body : List ByteArray) (x : RuleD) : Bool :=
  if x.ask = 1 then !nullB u d && endB d x.txt else if x.ask = 2 then body.any (fun s => hasPart s x.txt) else if x.ask = 3 then nullB u d else true
theorem asksB_two {u d : ByteArray} {body : List ByteArray} {x : RuleD} (h : x.ask = 2) : asksB u d body x = body.any (fun s => hasPart s x.txt) := by unfold asksB; rw [if_neg (by omega), if_pos h]
/-- The first of a row that is wanted, or -1. -/
def firstR {α : Type} (f : α → Bool) (xs : List α) : Int := if xs.findIdx f < xs.length then (xs.findIdx f : Int) else -1
theorem firstR_hit {α : Type} {f : α → Bool} {xs : List α} {k : Nat} {x : α} (hx : xs[k]? = some x) (hf : f x = true) (hn : ∀ j y, j < k → xs[j]? = some y → f y = false) : firstR f xs = k := by
  obtain ⟨hk, e⟩ := List.getElem?_eq_some_iff.1 hx
  have h : xs.findIdx f = k := (List.findIdx_eq hk).2 ⟨by rw [e]; exact hf, fun j hj => hn j _ hj (List.getElem?_eq_getElem (by omega))⟩
  unfold firstR
  rw [h, if_pos hk]
theorem firstR_none {α : Type} {f : α → Bool} {xs : List α} (hn : ∀ j y, j < xs.length → xs[j]? = some y → f y = false) : firstR f xs = -1 := by
  have h : xs.findIdx f = xs.length := List.findIdx_eq_length.2 fun y hy => by
    obtain ⟨j, hj⟩ := List.getElem?_of_mem hy
    exact hn j y (List.getElem?_eq_some_iff.1 hj).1 hj
  unfold firstR
  rw [h, if_neg (by omega)]
def whichB (xs : List RuleD) (m : MailD) : Int := if rulesB xs && mailB m then firstR (asksB m.fu m.fd m.body) xs else -1
theorem whichB_yes {xs : List RuleD} {m : MailD} (h1 : rulesB xs = true) (h2 : mailB m = true) : whichB xs m = firstR (asksB m.fu m.fd m.body) xs := by unfold whichB; rw [h1, h2]; rfl
theorem whichB_rules {xs : List RuleD} {m : MailD} (h1 : rulesB xs = false) : whichB xs m = -1 := by unfold whichB; rw [h1]; rfl
theorem whichB_mail {xs : List RuleD} {m : MailD} (h1 : rulesB xs = true) (h2 : mailB m = false) : whichB xs m = -1 := by unfold whichB; rw [h1, h2]; rfl
theorem rules_each {xs : List RuleD} (h : rulesB xs = true) {k : Nat} {x : RuleD} (hx : xs[k]? = some x) : ruleB x = true := by
  unfold rulesB at h
  rw [Bool.and_eq_true, List.all_eq_true] at h
  exact h.2 x (List.mem_of_getElem? hx)
theorem ask_in {x : RuleD} (h : ruleB x = true) : (x.ask = 1 ∧ domB x.txt = true) ∨ x.ask = 2 ∨ x.ask = 3 ∨ x.ask = 4 := by
  unfold ruleB at h
  rw [Bool.and_eq_true] at h
  have h1 := h.1
  unfold askB at h1
  split at h1
  · rename_i e; exact .inl ⟨e, h1⟩
  · split at h1
    · rename_i e; exact .inr (.inl e)
    · rw [Bool.and_eq_true, decide_eq_true_eq] at h1
      exact .inr (.inr h1.1)
theorem dom_none {d : ByteArray} (h : d.toList = []) : domB d = false := by
  cases hd : domB d with
  | false => rfl
  | true =>
    have h1 : d = ByteArray.empty := by
      apply ByteArray.ext
      rw [Lib.toList_data] at h
      exact Array.toList_inj.1 h
    rw [h1] at hd
    exact absurd hd (by decide +kernel)
/-- Of a mail and a rule that are ok the two ways to ask for a domain are one. -/
theorem from_same {m : MailD} {x : RuleD} (h : mailB m = true) (h1 : x.ask = 1) (h2 : domB x.txt = true) : inDomB m.fd x.txt = asksB m.fu m.fd m.body x := by
  have hs : senderB m.fu m.fd = true := by unfold mailB at h; rw [Bool.and_eq_true] at h; exact h.1
  unfold asksB inDomB
  rw [if_pos h1, h2, Bool.and_true]
  cases hn : nullB m.fu m.fd with
  | true => rw [dom_none (nullB_true hn).2]; rfl
  | false =>
    unfold senderB addrB at hs
    rw [hn, Bool.false_or, Bool.and_eq_true] at hs
    rw [hs.2]; rfl
end Go.Proofs.YtgniokkiejoccaaDoor
namespace Go.Proofs.YtgniokkiejoccaaDoor
open Go

theorem firstR_no {α : Type} {f : α → Bool} {xs : List α} (h : firstR f xs = -1) {k : Nat} {x : α} (hx : xs[k]? = some x) : f x = false := by
  unfold firstR at h
  split at h
  · omega
  · rename_i hn
    have e : xs.findIdx f = xs.length := Nat.le_antisymm (List.findIdx_le_length) (by omega)
    have := List.findIdx_eq_length.1 e x (List.mem_of_getElem? hx)
    simpa using this
theorem firstR_at {α : Type} {f : α → Bool} {xs : List α} {n k : Nat} {x : α} (h : firstR f xs = n) (hx : xs[k]? = some x) (hk : k ≤ n) : f x = decide (k = n) := by
  unfold firstR at h
  split at h
  · rename_i hl
    have e : xs.findIdx f = n := by omega
    obtain ⟨hk2, e2⟩ := List.getElem?_eq_some_iff.1 hx
    have hi := (List.findIdx_eq (p := f) (i := n) (by omega : n < xs.length)).1 e
    by_cases hkn : k = n
    · subst hkn
      rw [decide_eq_true rfl, ← e2]
      exact hi.1
    · rw [decide_eq_false hkn, ← e2]
      exact hi.2 k (by omega)
  · omega
theorem rulesB_one {x : RuleD} (h : ruleB x = true) : rulesB [x] = true := by
  unfold rulesB
  simp [h]
theorem whichB_one {x : RuleD} {m : MailD} (h : ruleB x = true) (hm : mailB m = true) : whichB [x] m = if asksB m.fu m.fd m.body x then 0 else -1 := by
  rw [whichB_yes (rulesB_one h) hm]
  unfold firstR
  simp only [List.findIdx_cons, List.findIdx_nil, List.length_singleton]
  cases asksB m.fu m.fd m.body x <;> rfl
end Go.Proofs.YtgniokkiejoccaaDoor
