/- Plain facts: rules of a sieve. No program in this text. -/
import Derived.Test.YtgniokkiejoccaaDoorPlains
namespace Go.Proofs.YtgniokkiejoccaaDoor
open Go

/-- A rule: what it asks for, and what is to be done. -/
structure RuleD where
  ask : Int
  txt : ByteArray
  act : Int
  u : ByteArray
  d : ByteArray
def askB (x : RuleD) : Bool :=
  if x.ask = 1 then domB x.txt else if x.ask = 2 then lineB x.txt else decide (x.ask = 3 ∨ x.ask = 4) && x.txt.toList.isEmpty
def actB (x : RuleD) : Bool :=
  if x.act = 1 ∨ x.act = 2 then nullB x.u x.d else decide (x.act = 3) && addrB x.u x.d
def ruleB (x : RuleD) : Bool := askB x && actB x
def rulesB (xs : List RuleD) : Bool := decide (xs.length ≤ 5) && xs.all ruleB
/-- What the model asks first of a rule, and what it asks then. -/
def firstB (x : RuleD) : Bool := inB x.ask 1 4 && (inB x.act 1 3 && (lineB x.txt && (decide (x.ask < 3) || x.txt.toList.isEmpty)))
def secondB (x : RuleD) : Bool := (!decide (x.ask = 1) || domB x.txt) && (if x.act = 3 then addrB x.u x.d else nullB x.u x.d)
theorem line_of_dom {s : ByteArray} (h : domB s = true) : lineB s = true := by
  unfold domB at h
  rw [Bool.and_eq_true, decide_eq_true_eq] at h
  have h1 := pieces_small 3 s h.1
  have h2 := pieces_chars 3 s h.1
  unfold lineB
  rw [Bool.and_eq_true, decide_eq_true_eq, List.all_eq_true]
  refine ⟨fun c hc => ?_, by omega⟩
  unfold lineC
  rw [decide_eq_true_eq]
  rcases h2 c hc with h3 | rfl
  · unfold chB at h3
    rw [Bool.or_eq_true, decide_eq_true_eq, decide_eq_true_eq] at h3
    omega
  · decide
theorem line_of_none {s : ByteArray} (h : s.toList.isEmpty = true) : lineB s = true := by
  rw [Lib.toList_data] at h
  have h1 : s.data.toList = [] := by simpa using h
  have h2 : s.size = 0 := by rw [Lib.size_eq, h1]; rfl
  unfold lineB
  rw [h1, h2]; rfl
theorem rule_split (x : RuleD) : ruleB x = (firstB x && secondB x) := by
  have h1 := line_of_dom (s := x.txt)
  have h2 := line_of_none (s := x.txt)
  obtain ⟨ask, txt, act, u, d⟩ := x
  unfold ruleB firstB secondB askB actB inB
  dsimp only at h1 h2 ⊢
  rcases (show ask = 1 ∨ ask = 2 ∨ ask = 3 ∨ ask = 4 ∨ ¬ (1 ≤ ask ∧ ask ≤ 4) by omega) with rfl | rfl | rfl | rfl | ha
  all_goals rcases (show act = 1 ∨ act = 2 ∨ act = 3 ∨ ¬ (1 ≤ act ∧ act ≤ 3) by omega) with rfl | rfl | rfl | hb
  all_goals (generalize domB txt = vd at *; generalize lineB txt = vl at *; generalize txt.toList.isEmpty = ve at *; generalize addrB u d = va; generalize nullB u d = vn)
  all_goals first
    | (revert h1 h2; cases vd <;> cases vl <;> cases ve <;> cases va <;> cases vn <;> (simp; done))
    | (have e1 : ¬ ask = 1 := by omega
       have e2 : ¬ ask = 2 := by omega
       have e3 : ¬ (ask = 3 ∨ ask = 4) := by omega
       rw [if_neg e1, if_neg e2, decide_eq_false e3, decide_eq_false ha, Bool.false_and, Bool.false_and, Bool.false_and, Bool.false_and])
    | (have e1 : ¬ (act = 1 ∨ act = 2) := by omega
       have e2 : ¬ act = 3 := by omega
       rw [if_neg e1, decide_eq_false e2, decide_eq_false hb, Bool.false_and, Bool.and_false, Bool.false_and, Bool.and_false, Bool.false_and])
theorem ruleB_first {x : RuleD} (h : firstB x = false) : ruleB x = false := by rw [rule_split, h]; rfl
theorem ruleB_second {x : RuleD} (h : firstB x = true) : ruleB x = secondB x := by rw [rule_split, h]; rfl
theorem rulesB_miss {xs : List RuleD} {k : Nat} {x : RuleD} (hx : xs[k]? = some x) (h : ruleB x = false) : rulesB xs = false := by
  unfold rulesB
  rw [list_all_miss hx h, Bool.and_false]
theorem rulesB_end {xs : List RuleD} (h : xs.all ruleB = true) : rulesB xs = decide ((xs.length : Int) ≤ 5) := by
  unfold rulesB
  rw [h, Bool.and_true, decide_eq_decide]
  omega
end Go.Proofs.YtgniokkiejoccaaDoor
